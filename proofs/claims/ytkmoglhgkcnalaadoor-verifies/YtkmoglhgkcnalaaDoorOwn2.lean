/- A part of what the last text of the claim imports: texts laid together, and made small, by a program. -/
import GoSem.Step
import Derived.RunT
import Derived.Test.YtkmoglhgkcnalaaDoorOwn1
set_option maxHeartbeats 16000000
set_option maxRecDepth 100000
namespace Go.Proofs.YtkmoglhgkcnalaaDoor
open Go
section
variable{ρ:Nat->Nat}{PL PM:Program}{α β:Type}{f:α->β}
theorem tV(hP:aH PL PM)(t:TypeId):ag ρ PL PM id (elemOf t) (elemOf t):=by
 unfold elemOf
 refine(ai hP t).bind λd=> ?_
 cases d with
 |pointer e=>exact a9 _ rfl
 |_=>exact .dead trivial
theorem lI(hP:aH PL PM)(a:Addr)(u:TypeId)(n:Nat):ag ρ PL PM id (variablesAt a u n) (variablesAt (au ρ a) u n):=by
 unfold variablesAt
 refine .program ?_
 refine(cY a.block).bind λs=> ?_
 cases s with
 |none=>exact a9 _ rfl
 |some x=>
  obtain⟨e,c⟩:=x
  refine a9 _ ?_
  simp only[id]
  rw[←hP.lies,←hP.cells]
  rfl
theorem nX:∀(n:Nat) (a:Addr) (acc:ByteArray),ag ρ PL PM id (loadBytes a acc n) (loadBytes (au ρ a) acc n)
 |0,a,acc=>a9 _ rfl
 |n+1,a,acc=>by
  unfold loadBytes
  refine(uT a).bind λv=> ?_
  cases v with
  |int k b=>
   simp only[aa]
   cases k with
   |u8=>rw[←dJ];exact nX n _ _
   |_=>exact .dead trivial
  |_=>simp only[aa];exact .dead trivial
theorem yZ(r:Nat):ag ρ PL PM id (cellsIn r) (cellsIn (ρ r)):=by
 unfold cellsIn
 refine(cY r).bind λs=> ?_
 cases s with
 |some x=>exact a9 _ rfl
 |none=>
  refine ag.getObj λo _=> ?_
  cases o<;>first|exact a9 _ rfl|(refine a9 _ ?_;simp)
theorem pW(hP:aH PL PM)(ts:Array TypeId)(t:TypeId)(args:Array Value):ag ρ PL PM (aa ρ) (Builtin.unsafeString_ ts t args) (Builtin.unsafeString_ ts t (args.map (aa ρ))):=by
 rcases args with⟨l⟩
 rcases l with _|⟨x,_|⟨y,_|⟨z,l⟩⟩⟩
 ·exact .dead trivial
 ·exact .dead trivial
 ·rw[show(Array.mk [x,y]).map (aa ρ)=#[aa ρ x,aa ρ y] by simp]
  cases x with
  |pointer p=>
   rw[show aa ρ (.pointer p)= .pointer (p.map (au ρ)) by simp only[aa]]
   unfold Builtin.unsafeString_
   refine ag.bind (lN y) λn=> ?_
   dsimp only[id]
   cases ts[0]? with
   |none=>exact .dead trivial
   |some pt=>
    dsimp only
    refine ar (iP hP rfl _ _) ?_
    refine ar (.dead trivial) ?_
    cases p with
    |none=>
     simp only[Option.map_none]
     exact ar (a9 _ (by simp[aa])) (fP hP rfl)
    |some a=>
     simp only[Option.map_some]
     refine ar (a9 _ (by simp[aa])) ?_
     refine(tV hP pt).bind λe=> ?_
     refine(lI hP a e _).bind λq=> ?_
     refine ar ?_ (.dead trivial)
     refine(nX _ a _).bind λs=> ?_
     exact .freeze (a9 _ (by simp[aa]))
  |_=>exact .dead trivial
 ·exact .dead trivial
theorem mZ(hP:aH PL PM)(ts:Array TypeId)(t:TypeId)(args:Array Value):ag ρ PL PM (aa ρ) (Builtin.unsafeSliceData_ ts t args) (Builtin.unsafeSliceData_ ts t (args.map (aa ρ))):=by
 rcases args with⟨l⟩
 rcases l with _|⟨x,_|⟨y,l⟩⟩
 ·exact .dead trivial
 ·rw[show(Array.mk [x]).map (aa ρ)=#[aa ρ x] by simp]
  cases x with
  |slice b l c=>
   rw[show aa ρ (.slice b l c)= .slice (b.map (au ρ)) l c by simp only[aa]]
   cases b with
   |none=>exact a9 (Value.pointer none) (by simp[aa])
   |some a=>
    unfold Builtin.unsafeSliceData_
    show ag ρ PL PM (aa ρ) (if c≠0 then _ else _) (if c≠0 then _ else _)
    refine ar (a9 _ (by simp[aa])) ?_
    refine(m8 a.block).bind λv=> ?_
    rw[Option.isSome_map]
    refine ar (a9 _ (by simp[aa])) ?_
    refine(tV hP t).bind λe=> ?_
    refine(oC (.view a e) rfl).bind λn=> ?_
    exact a9 _ (by simp[aa,au])
  |_=>exact .dead trivial
 ·exact .dead trivial
theorem sx(s:FloatKind)(b:Nat)(k:IntKind):ag ρ PL PM (aa ρ) (Conv.floatToInt s b k) (Conv.floatToInt s b k):=by
 unfold Conv.floatToInt
 cases (s.decode b).toInt .zero with
 |none=>exact .choose λn=>a9 _ (by simp[aa])
 |some n=>exact ar (a9 _ (by simp[aa])) (.choose λn=>a9 _ (by simp[aa]))
theorem gV(s:FloatKind)(b:Nat)(k:FloatKind):ag ρ PL PM (aa ρ) (Conv.floatToFloat s b k) (Conv.floatToFloat s b k):=by
 unfold Conv.floatToFloat
 refine ar (a9 _ (by simp[aa])) ?_
 cases s.decode b with
 |nan x y=>exact .choose λn=>a9 _ (by simp[aa])
 |infinity x=>exact a9 _ (by simp[aa])
 |number x y z=>exact ar (.choose λn=>a9 _ (by simp[aa])) (a9 _ (by simp[aa]))
theorem ma(s:FloatKind)(a b:Nat)(k:FloatKind):ag ρ PL PM (aa ρ) (Conv.complexToComplex s a b k) (Conv.complexToComplex s a b k):=by
 unfold Conv.complexToComplex
 refine(gV s a k).bind λv=> ?_
 cases v with
 |float q x=>
  simp only[aa]
  refine(gV s b k).bind λw=> ?_
  cases w with
  |float q x=>simp only[aa];exact a9 _ (by simp[aa])
  |_=>simp only[aa];exact .dead trivial
 |_=>simp only[aa];exact .dead trivial
theorem oy(x:Value):ag ρ PL PM (aa ρ) (Conv.runesToString x) (Conv.runesToString (aa ρ x)):=by
 unfold Conv.runesToString
 cases x with
 |slice a l c=>
  cases a with
  |none=>simp only[aa,Option.map_none];exact a9 _ (by simp[aa])
  |some a=>
   simp only[aa,Option.map_some]
   refine(ia a l).bind λcs=> ?_
   refine(oH (aa ρ) (λc s=> ?_) cs ByteArray.empty).bind λs=>a9 _ (by simp[aa])
   cases c with
   |int k n=>
    simp only[aa]
    cases k<;>first|exact a9 _ rfl|exact .dead trivial
   |_=>simp only[aa];exact .dead trivial
 |_=>simp only[aa];exact .dead trivial
theorem sS(ρ:Nat->Nat)(s:ByteArray):∀(n i:Nat) (acc:Array Value),acc.map (aa ρ)=acc->(Conv.runesFrom s n i acc).map (aa ρ)=Conv.runesFrom s n i acc
 |0,i,acc,h=>h
 |n+1,i,acc,h=>by
  unfold Conv.runesFrom
  split
  ·exact sS ρ s n _ _ (by rw[Array.map_push,h];simp[aa])
  ·exact h
theorem ov(e:TypeId)(s:ByteArray):ag ρ PL PM (aa ρ) (Conv.stringToRunes e s) (Conv.stringToRunes e s):=by
 unfold Conv.stringToRunes
 refine .choose λc=> ?_
 have h2:∀n,(Conv.runesFrom s s.size 0 #[]++Array.replicate n (Value.int .i32 0)).map (aa ρ)=Conv.runesFrom s s.size 0 #[]++Array.replicate n (Value.int .i32 0):=λn=>by
  rw[Array.map_append,sS ρ s s.size 0 #[] (by simp),Array.map_replicate];simp[aa]
 refine ag.bind (f:=au ρ) (by have:=dZ (ρ:=ρ) (PL:=PL) (PM:=PM) e (Conv.runesFrom s s.size 0 #[]++Array.replicate (c-(Conv.runesFrom s s.size 0 #[]).size) (.int .i32 0));rw[h2]at this;exact this) λa=>a9 _ (by simp[aa])
theorem tK(hP:aH PL PM)(a:Addr):ag ρ PL PM (au ρ) (Conv.seenAt a) (Conv.seenAt (au ρ a)):=by
 unfold Conv.seenAt
 refine(m8 a.block).bind λv=> ?_
 cases v with
 |none=>exact a9 _ rfl
 |some x=>
  obtain⟨seen,u⟩:=x
  simp only[Option.map_some]
  refine ar (a9 _ rfl) ?_
  refine ar (.dead trivial) ?_
  refine .program ?_
  simp only[Sem.bind]
  rw[←hP.byteOf,show(au ρ a).off=a.off from rfl]
  cases byteOfCell PL PL.depth u a.off with
  |none=>exact .dead trivial
  |some b=>
   refine(cY seen.block).bind λs=> ?_
   cases s with
   |none=>exact .dead trivial
   |some x=>
    obtain⟨e,c⟩:=x
    dsimp only[id]
    rw[←hP.cells]
    refine ar (.dead trivial) ?_
    rw[←hP.atBytes,show(au ρ seen).off=seen.off from rfl]
    cases cellAtBytes PL PL.depth e (c/PL.cellsOf e) seen.off b with
    |none=>exact .dead trivial
    |some x=>exact a9 _ rfl
theorem xd(hP:aH PL PM)(src dst:TypeId)(x:Value):ag ρ PL PM (aa ρ) (Conv.unsafePointer src dst x) (Conv.unsafePointer src dst (aa ρ x)):=by
 unfold Conv.unsafePointer
 refine(ai hP src).bind λd=> ?_
 refine(ai hP dst).bind λd'=> ?_
 dsimp only[id]
 cases x with
 |pointer p=>
  rw[show aa ρ (.pointer p)= .pointer (p.map (au ρ)) by simp only[aa]]
  cases p with
  |none=>
   simp only[Option.map_none]
   cases d with
   |pointer t=>cases d'<;>first|exact .dead trivial|exact a9 _ (by simp[aa])
   |unsafePointer=>cases d'<;>first|exact .dead trivial|exact a9 _ (by simp[aa])
   |int k=>cases d'<;>exact .dead trivial
   |_=>exact .dead trivial
  |some a=>
   simp only[Option.map_some]
   cases d with
   |pointer t=>
    cases d' with
    |unsafePointer=>
     refine(tK hP a).bind λs=> ?_
     refine(yZ s.block).bind λc=> ?_
     refine(bS hP t).bind λz=> ?_
     refine ar ?_ (a9 _ (by simp[aa]))
     refine(oC (.view s t) rfl).bind λn=> ?_
     exact a9 _ (by simp[aa,au])
    |_=>exact .dead trivial
   |unsafePointer=>
    cases d' with
    |pointer u=>
     refine(tK hP a).bind λs=> ?_
     refine(bS hP u).bind λz=> ?_
     refine(lI hP s u 1).bind λq=> ?_
     refine ar (a9 _ (by simp[aa])) ?_
     refine(cY s.block).bind λsh=> ?_
     cases sh with
     |none=>exact .dead trivial
     |some x=>
      obtain⟨e,c⟩:=x
      refine .program (.program ?_)
      simp only[Sem.bind]
      rw[←hP.held]
      refine ar (.dead trivial) ?_
      refine(oC (.view s u) rfl).bind λn=> ?_
      exact a9 _ (by simp[aa,au])
    |unsafePointer=>exact a9 _ (by simp[aa])
    |int k=>
     refine(oC (.number a false) rfl).bind λn=> ?_
     exact a9 _ (by simp[aa,au])
    |_=>exact .dead trivial
   |int k=>cases d'<;>exact .dead trivial
   |_=>exact .dead trivial
 |int k n=>
  simp only[aa]
  cases d<;>cases d'<;>first|exact .dead trivial|(rcases n with(_|n)|n<;>exact .dead trivial)
 |_=>cases d<;>cases d'<;>exact .dead trivial
theorem gn(b:Option Addr)(l c:Nat):ag ρ PL PM (aa ρ) (Conv.bytesToString (.slice b l c)) (Conv.bytesToString (.slice (b.map (au ρ)) l c)):=by
 have:=oJ (ρ:=ρ) (PL:=PL) (PM:=PM) (.slice b l c)
 rwa [show aa ρ (.slice b l c)= .slice (b.map (au ρ)) l c by simp only[aa]]at this
theorem gj(b:Option Addr)(l c:Nat):ag ρ PL PM (aa ρ) (Conv.runesToString (.slice b l c)) (Conv.runesToString (.slice (b.map (au ρ)) l c)):=by
 have:=oy (ρ:=ρ) (PL:=PL) (PM:=PM) (.slice b l c)
 rwa [show aa ρ (.slice b l c)= .slice (b.map (au ρ)) l c by simp only[aa]]at this
theorem yY(hP:aH PL PM)(src dst:TypeId)(x:Value):ag ρ PL PM (aa ρ) (convert src dst x) (convert src dst (aa ρ x)):=by
 have hu:=xd (ρ:=ρ) hP src dst x
 unfold convert
 refine(ai hP src).bind λd=> ?_
 refine(ai hP dst).bind λd'=> ?_
 dsimp only[id]
 cases x with
 |slice b l c=>
  rw[show aa ρ (.slice b l c)= .slice (b.map (au ρ)) l c by simp only[aa]]at hu⊢
  cases b with
  |none=>cases d'<;>first|exact hu|(cases d<;>first|exact .dead trivial|exact hu|(refine(ai hP _).bind λe=> ?_;cases e<;>first|exact .dead trivial|(rename_i k;cases k<;>first|exact .dead trivial|exact gn _ _ _|exact gj _ _ _)))
  |some a=>cases d'<;>first|exact hu|(cases d<;>first|exact .dead trivial|exact hu|(refine(ai hP _).bind λe=> ?_;cases e<;>first|exact .dead trivial|(rename_i k;cases k<;>first|exact .dead trivial|exact gn _ _ _|exact gj _ _ _))|(refine(ai hP _).bind λe=> ?_;cases src==dst<;>first|exact .dead trivial|(cases e<;>first|exact .dead trivial|(rename_i k;cases k<;>first|exact .dead trivial|exact(jY a).bind λ_=>a9 _ (by simp[aa])))))
 |pointer p=>
  rw[show aa ρ (.pointer p)= .pointer (p.map (au ρ)) by simp only[aa]]at hu⊢
  cases p<;>cases d'<;>first|exact hu|(cases d<;>first|exact .dead trivial|exact hu|(refine(ai hP _).bind λe=> ?_;cases e<;>first|exact .dead trivial|(rename_i k;cases k<;>first|exact .dead trivial|exact gn _ _ _|exact gj _ _ _)))
 |_=>
  simp only[aa]at hu⊢
  cases d'<;>first|exact a9 _ (by simp[aa])|exact sx _ _ _|exact gV _ _ _|exact ma _ _ _ _|exact hu|(refine(ai hP _).bind λe=> ?_;cases e<;>first|exact .dead trivial|(rename_i k;cases k<;>first|exact .dead trivial|exact ow _ _|exact ov _ _))|(cases d<;>first|exact .dead trivial|exact hu|(refine(ai hP _).bind λe=> ?_;cases e<;>first|exact .dead trivial|(rename_i k;cases k<;>first|exact .dead trivial|exact gn _ _ _|exact gj _ _ _)))
end
inductive cC {α:Type}:Sem α->Prop
 |pure (a:α):cC (.pure a)
 |choose {q:Question} {k:Nat->Sem α} (h:∀n,cC (k n)):cC (.choose q k)
 |halt {h:Halt} (d:eb h):cC (.halt h)
theorem cC.bind{α β:Type}{s:Sem α}{k:α->Sem β}(h:cC s)(hk:∀a,cC (k a)):cC (s>>=k):=by
 show cC (s.bind k)
 induction h with
 |pure a=>exact hk a
 |choose _ ih=>exact .choose ih
 |halt d=>exact .halt d
theorem cC.ite{α:Type}{c:Prop}[Decidable c]{A B:Sem α}(h1:cC A)(h2:cC B):cC (if c then A else B):=by
 split
 ·exact h1
 ·exact h2
theorem o6(op:BinOp)(k:FloatKind)(x y:Nat):cC (Op.floatArith op k x y):=by
 unfold Op.floatArith
 cases op<;>dsimp only<;>first
  |exact .halt trivial
  |(simp only[pure_bind];split<;>first|exact .pure _|exact .choose λn=> .pure _)
theorem qz(op:BinOp)(k:FloatKind)(x y:Nat):cC (Op.floatCmp op k x y):=by
 unfold Op.floatCmp
 cases op<;>first|exact .pure _|exact .halt trivial
theorem mC(s:FloatKind)(b:Nat)(k:FloatKind):cC (Conv.floatToFloat s b k):=by
 unfold Conv.floatToFloat
 refine cC.ite (.pure _) ?_
 cases s.decode b with
 |nan x y=>exact .choose λn=> .pure _
 |infinity x=>exact .pure _
 |number x y z=>exact cC.ite (.choose λn=> .pure _) (.pure _)
theorem ff(op:BinOp)(k:FloatKind)(x y:Nat):cC (Op.Complex.arith op k x y):=by
 unfold Op.Complex.arith
 exact(o6 op k x y).bind λv=>by cases v<;>first|exact .pure _|exact .halt trivial
theorem lT(op:BinOp)(k:FloatKind)(x y:Nat):cC (Op.Complex.cmp op k x y):=by
 unfold Op.Complex.cmp
 exact(qz op k x y).bind λv=>by cases v<;>first|exact .pure _|exact .halt trivial
theorem fU(s:FloatKind)(x:Nat)(k:FloatKind):cC (Op.Complex.conv s x k):=by
 unfold Op.Complex.conv
 refine cC.ite (.pure _) ?_
 exact(mC s x k).bind λv=>by cases v<;>first|exact .pure _|exact .halt trivial
theorem rS(a b c d:Nat):cC (Op.Complex.product a b c d):=by
 unfold Op.Complex.product
 repeat (refine cC.bind (ff _ _ _ _) λ_=> ?_)
 exact .pure _
theorem kY(s a b c d:Nat):cC (Op.Complex.corrected s a b c d):=by
 unfold Op.Complex.corrected
 repeat (refine cC.bind (ff _ _ _ _) λ_=> ?_)
 exact .pure _
theorem qy(a b c d:Nat):cC (Op.Complex.quotient a b c d):=by
 unfold Op.Complex.quotient
 refine(lT _ _ _ _).bind λq=> ?_
 dsimp only
 refine cC.ite ?_ ?_<;>
 ·repeat (refine cC.bind (ff _ _ _ _) λ_=> ?_)
  repeat (refine cC.bind (lT _ _ _ _) λ_=> ?_)
  refine cC.ite (.pure _) (cC.ite ?_ (cC.ite (kY _ _ _ _ _) (cC.ite (kY _ _ _ _ _) (.pure _))))
  repeat (refine cC.bind (ff _ _ _ _) λ_=> ?_)
  exact .pure _
section
variable{ρ:Nat->Nat}{PL PM:Program}{α β:Type}{f:α->β}
theorem cC.alike{s:Sem α}(h:cC s):ag ρ PL PM id s s:=by
 induction h with
 |pure a=>exact .pure a
 |choose _ ih=>exact .choose ih
 |halt d=>exact .dead d
theorem sA(op:BinOp)(k:FloatKind)(x y:Nat):ag ρ PL PM (aa ρ) (Op.floatArith op k x y) (Op.floatArith op k x y):=by
 unfold Op.floatArith
 cases op<;>dsimp only<;>first
  |exact .dead trivial
  |(simp only[pure_bind];split<;>first|exact a9 _ (by simp[aa])|exact .choose λn=>a9 _ (by simp[aa]))
theorem xo(op:BinOp)(k:FloatKind)(x y:Nat):ag ρ PL PM (aa ρ) (Op.floatCmp op k x y) (Op.floatCmp op k x y):=by
 unfold Op.floatCmp
 cases op<;>first|exact a9 _ (by simp[aa])|exact .dead trivial
theorem uU(op:BinOp)(k:FloatKind)(a b c d:Nat):ag ρ PL PM (aa ρ) (Op.complexOp op k a b c d) (Op.complexOp op k a b c d):=by
 unfold Op.complexOp
 cases op<;>dsimp only<;>first
  |exact .dead trivial
  |(refine(ff _ _ _ _).alike.bind λ_=>(ff _ _ _ _).alike.bind λ_=> ?_
    exact a9 _ (by simp[aa]))
  |(refine(lT _ _ _ _).alike.bind λ_=>(lT _ _ _ _).alike.bind λ_=> ?_
    exact a9 _ (by simp[aa]))
  |(refine(fU _ _ _).alike.bind λ_=>(fU _ _ _).alike.bind λ_=>(fU _ _ _).alike.bind λ_=>(fU _ _ _).alike.bind λ_=> ?_
    first
     |refine(rS _ _ _ _).alike.bind λ_=> ?_
     |refine(qy _ _ _ _).alike.bind λ_=> ?_
    refine(fU _ _ _).alike.bind λ_=>(fU _ _ _).alike.bind λ_=> ?_
    exact a9 _ (by simp[aa]))
theorem pM(r:Nat):ag ρ PL PM (Option.map λx=>(au ρ x.1,x.2)) (numberAt r) (numberAt (ρ r)):=by
 unfold numberAt
 refine(cY r).bind λs=> ?_
 dsimp only[id]
 refine ar (a9 _ rfl) ?_
 exact .getObj λo _=>by cases o<;>exact a9 _ rfl
theorem cz(a:Addr):ag ρ PL PM (λx=>(au ρ x.1,x.2)) (behindNumber a) (behindNumber (au ρ a)):=by
 unfold behindNumber
 refine(pM a.block).bind λx=> ?_
 cases x<;>exact a9 _ rfl
theorem kQ(hP:aH PL PM)(ts:Array TypeId)(t:TypeId)(x y:Value):ag ρ PL PM (aa ρ) (Builtin.unsafeAdd_ ts t #[x,y]) (Builtin.unsafeAdd_ ts t #[aa ρ x,aa ρ y]):=by
 cases x with
 |pointer p=>
  rw[show aa ρ (.pointer p)= .pointer (p.map (au ρ)) by simp only[aa]]
  unfold Builtin.unsafeAdd_
  refine ag.bind (lN y) λn=> ?_
  dsimp only[id]
  refine ar ?_ ?_
  ·cases p with
   |none=>exact .dead trivial
   |some a=>
    simp only[Option.map_some]
    refine(m8 a.block).bind λv=> ?_
    rw[Option.isSome_map]
    exact ar (.dead trivial) (a9 _ (by simp[aa]))
  ·refine ar (.dead trivial) ?_
   cases p with
   |none=>exact .dead trivial
   |some a=>
    simp only[Option.map_some]
    refine(cY a.block).bind λs=> ?_
    cases s with
    |none=>exact .dead trivial
    |some z=>
     obtain⟨e,c⟩:=z
     refine .program ?_
     simp only[Sem.bind]
     rw[←hP.atBytes,←hP.cells,show(au ρ a).off=a.off from rfl]
     cases cellAtBytes PL PL.depth e (c/PL.cellsOf e) a.off n with
     |none=>exact .dead trivial
     |some x=>exact a9 _ (by simp[aa,au])
 |_=>exact .dead trivial
theorem lJ(hP:aH PL PM)(t:TypeId)(x y:Value):ag ρ PL PM (aa ρ) (movedNumber t x y) (movedNumber t (aa ρ x) (aa ρ y)):=by
 unfold movedNumber
 refine(ai hP t).bind λd=> ?_
 dsimp only[id]
 refine ar (.dead trivial) ?_
 have hu:=kQ (ρ:=ρ) hP #[] t x y
 cases x with
 |pointer p=>
  rw[show aa ρ (.pointer p)= .pointer (p.map (au ρ)) by simp only[aa]]at hu⊢
  cases p with
  |none=>exact hu
  |some a=>
   simp only[Option.map_some]
   refine(cz a).bind λz=> ?_
   obtain⟨b,lost⟩:=z
   have hb:=kQ (ρ:=ρ) hP #[] t (.pointer (some b)) y
   rw[show aa ρ (.pointer (some b))= .pointer (some (au ρ b)) by simp only[aa,Option.map_some]]at hb
   refine hb.bind λv=> ?_
   cases v with
   |pointer q=>
    cases q with
    |none=>simp only[aa,Option.map_none];exact a9 _ (by simp[aa])
    |some c=>
     simp only[aa,Option.map_some]
     refine(oC (.number c lost) rfl).bind λn=> ?_
     exact a9 _ (by simp[aa,au])
   |_=>simp only[aa];exact a9 _ (by simp[aa])
 |_=>simp only[aa]at hu⊢;exact hu
theorem pX(hP:aH PL PM)(t:TypeId)(x y:Value):ag ρ PL PM (aa ρ) (movedPointer t x y) (movedPointer t (aa ρ x) (aa ρ y)):=by
 unfold movedPointer
 have hu:=kQ (ρ:=ρ) hP #[] t x y
 cases x with
 |pointer p=>
  rw[show aa ρ (.pointer p)= .pointer (p.map (au ρ)) by simp only[aa]]at hu⊢
  cases p with
  |none=>exact hu
  |some a=>
   simp only[Option.map_some]at hu⊢
   refine(pM a.block).bind λz=> ?_
   rw[Option.isSome_map]
   exact ar (.dead trivial) hu
 |_=>simp only[aa]at hu⊢;exact hu
def EF(PL PM:Program)(ρ:Nat->Nat):Prop:=(∀x y,ρ x=ρ y->x=y)/\∀b,b<PL.globals.size↔ρ b<PM.globals.size
theorem nV(hP:aH PL PM)(hF:EF PL PM ρ)(a b:Addr):ag ρ PL PM id (Op.twoPlaces a b) (Op.twoPlaces (au ρ a) (au ρ b)):=by
 unfold Op.twoPlaces
 refine .program ?_
 simp only[Sem.bind]
 have h1:((au ρ a).block !=(au ρ b).block)=(a.block !=b.block):=by
  have:=jX hF.1 a.block b.block
  simp only[bne,au,this]
 have h2:decide ((au ρ a).block≥PM.globals.size)=decide (a.block≥PL.globals.size):=by
  have:=hF.2 a.block
  exact decide_eq_decide.2 (by simp only[au];omega)
 rw[h1,h2]
 refine ar (.dead trivial) ?_
 refine(g9 hP a).bind λx=>(g9 hP b).bind λy=>a9 _ rfl
theorem zb(hP:aH PL PM)(hF:EF PL PM ρ)(k:IntKind)(a b:Addr):ag ρ PL PM (aa ρ) (Op.addrSub k a b) (Op.addrSub k (au ρ a) (au ρ b)):=
 (nV hP hF a b).bind λx=>a9 _ (by simp[aa])
theorem kV(hP:aH PL PM)(hF:EF PL PM ρ)(op:BinOp)(a b:Addr):ag ρ PL PM (aa ρ) (Op.addrCmp op a b) (Op.addrCmp op (au ρ a) (au ρ b)):=
 (nV hP hF a b).bind λx=>by cases op<;>first|exact a9 _ (by simp[aa])|exact .dead trivial
theorem na(hP:aH PL PM)(k:IntKind)(a:Addr)(n:Int):ag ρ PL PM (aa ρ) (Op.addrMod k a n) (Op.addrMod k (au ρ a) n):=by
 unfold Op.addrMod
 refine(cY a.block).bind λs=> ?_
 cases s with
 |none=>exact .dead trivial
 |some z=>
  refine(bU hP z.1).bind λi=> ?_
  dsimp only[id]
  refine ar (.dead trivial) ?_
  exact(g9 hP a).bind λx=>a9 _ (by simp[aa])
end
section
variable{ρ:Nat->Nat}{PL PM:Program}{α β:Type}{f:α->β}
theorem tQ{γ σ:Type}{g g':γ->σ->Sem (ForInStep σ)}(h:∀c s,ag ρ PL PM id (g c s) (g' c s))(xs:Array γ)(b:σ):ag ρ PL PM id (forIn xs b g) (forIn xs b g'):=by
 have:=oH (ρ:=ρ) (PL:=PL) (PM:=PM) id h xs b
 rwa [Array.map_id]at this
theorem tR{σ:Type}{g g':Nat->σ->Sem (ForInStep σ)}(h:∀c s,ag ρ PL PM id (g c s) (g' c s))(r:Std.Legacy.Range)(b:σ):ag ρ PL PM id (forIn r b g) (forIn r b g'):=by
 rw[Std.Legacy.Range.forIn_eq_forIn_range',Std.Legacy.Range.forIn_eq_forIn_range']
 have:=oG (ρ:=ρ) (PL:=PL) (PM:=PM) id h (List.range' r.start r.size r.step) b
 rwa [List.map_id]at this
def J9(ρ:Nat->Nat)(PL PM:Program)(d:Nat):Prop:=∀(t:TypeId) (x y:Value),ag ρ PL PM id (Op.equalIn d t x y) (Op.equalIn d t (aa ρ x) (aa ρ y))
theorem Ei(hP:aH PL PM){d:Nat}(ih:J9 ρ PL PM d)(t:TypeId)(xs:Array Value)(y:Value):ag ρ PL PM id (Op.equalIn (d+1) t (.agg xs) y) (Op.equalIn (d+1) t (aa ρ (.agg xs)) (aa ρ y)):=by
 unfold Op.equalIn
 refine(ai hP t).bind λe=> ?_
 dsimp only[id]
 cases y with
 |agg ys=>
  simp only[aa]
  cases e with
  |struct fs=>
   refine .program ?_
   simp only[Sem.bind]
   rw[←hP.stood]
   refine ar (.dead trivial) ?_
   refine(tQ (λfd st=> ?_) fs (none,())).bind λst=> ?_
   ·refine ar ?_ (a9 _ rfl)
    refine(eU hP fd.type xs fd.offset).bind λu=> ?_
    refine(eU hP fd.type ys fd.offset).bind λv=> ?_
    refine(ih fd.type u v).bind λq=> ?_
    exact ar (a9 _ rfl) (a9 _ rfl)
   ·dsimp only[id]
    split<;>exact a9 _ rfl
  |array n e=>
   refine(bS hP e).bind λz=> ?_
   dsimp only[id]
   refine(tR (λi st=> ?_) _ (none,())).bind λst=> ?_
   ·refine(eU hP e xs _).bind λu=> ?_
    refine(eU hP e ys _).bind λv=> ?_
    refine(ih e u v).bind λq=> ?_
    exact ar (a9 _ rfl) (a9 _ rfl)
   ·dsimp only[id]
    split<;>exact a9 _ rfl
  |_=>exact .dead trivial
 |pointer p=>simp only[aa];cases e<;>cases p<;>exact .dead trivial
 |_=>simp only[aa];cases e<;>exact .dead trivial
theorem yX(hP:aH PL PM){d:Nat}(ih:J9 ρ PL PM d)(t:TypeId)(t1:TypeId)(v1:Value)(y:Value):ag ρ PL PM id (Op.equalIn (d+1) t (.iface t1 v1) y) (Op.equalIn (d+1) t (aa ρ (.iface t1 v1)) (aa ρ y)):=by
 unfold Op.equalIn
 refine(ai hP t).bind λe=> ?_
 dsimp only[id]
 cases y with
 |iface t2 v2=>
  simp only[aa]
  cases e with
  |interface ms=>
   refine ar (a9 _ rfl) ?_
   refine(bU hP t1).bind λi=> ?_
   dsimp only[id]
   refine ar ?_ (ih t1 v1 v2)
   refine .program (.program ?_)
   simp only[Sem.bind]
   rw[←hP.packed]
   refine ar (.dead trivial) ?_
   refine ag.bind (f:=id) ?_ λs=>fP hP rfl
   unfold typeStr
   refine(bU hP t1).bind λi=> ?_
   exact ar (.dead trivial) (a9 _ rfl)
  |_=>exact .dead trivial
 |nilIface=>simp only[aa];cases e<;>first|exact .dead trivial|exact a9 _ rfl
 |pointer p=>simp only[aa];cases e<;>cases p<;>exact .dead trivial
 |_=>simp only[aa];cases e<;>exact .dead trivial
theorem Eh(hP:aH PL PM)(hF:EF PL PM ρ)(d:Nat)(t:TypeId)(a:Option Addr)(y:Value):ag ρ PL PM id (Op.equalIn (d+1) t (.pointer a) y) (Op.equalIn (d+1) t (aa ρ (.pointer a)) (aa ρ y)):=by
 by_cases hp:dF (PL.underlying t) (.pointer a) y=true
 ·exact yW hP hF.1 d t _ y hp
 ·unfold Op.equalIn
  refine BW hP t λe he=> ?_
  rw[he]at hp
  cases y with
  |pointer b=>
   rw[show aa ρ (.pointer a)= .pointer (a.map (au ρ)) by simp only[aa],show aa ρ (.pointer b)= .pointer (b.map (au ρ)) by simp only[aa]]
   cases e with
   |int k=>
    cases a with
    |none=>cases b<;>exact .dead trivial
    |some a=>
     cases b with
     |none=>exact .dead trivial
     |some b=>
      simp only[Option.map_some]
      refine(cz a).bind λu=>(cz b).bind λv=> ?_
      refine .program ?_
      simp only[Sem.bind]
      have h1:=jX hF.1 u.1.block v.1.block
      have h2:decide (ρ u.1.block<PM.globals.size)=decide (u.1.block<PL.globals.size):=decide_eq_decide.2 (hF.2 u.1.block).symm
      rw[show(au ρ u.1).block=ρ u.1.block from rfl,show(au ρ v.1).block=ρ v.1.block from rfl,h1,h2,qQ hF.1]
      refine ar ?_ ?_
      ·exact(g9 hP u.1).bind λx=>(g9 hP v.1).bind λy=>a9 _ rfl
      ·refine(bU hP t).bind λi=> ?_
       dsimp only[id]
       split
       ·exact ar (a9 _ rfl) (.dead trivial)
       ·exact .dead trivial
   |_=>simp[dF]at hp
  |int k n=>
   rw[show aa ρ (.pointer a)= .pointer (a.map (au ρ)) by simp only[aa],show aa ρ (.int k n)= .int k n by simp only[aa]]
   cases e<;>first
    |exact .dead trivial
    |(cases a<;>rcases n with(_|n)|n<;>first|exact .dead trivial|exact a9 _ rfl)
  |_=>
   rw[show aa ρ (.pointer a)= .pointer (a.map (au ρ)) by simp only[aa]]
   cases e<;>first|exact .dead trivial|(cases a<;>exact .dead trivial)
end
section
variable{ρ:Nat->Nat}{PL PM:Program}{α β:Type}{f:α->β}
theorem jk(hi:∀x y,ρ x=ρ y->x=y)(a b:Option Nat):(a.map ρ==b.map ρ)=(a==b):=by
 cases a<;>cases b<;>first|rfl|exact jX hi _ _
theorem rH(hP:aH PL PM)(hF:EF PL PM ρ):∀d:Nat,J9 ρ PL PM d
 |0=>λ_ _ _=> .dead trivial
 |d+1=>λt x y=>by
  have ih:=rH hP hF d
  cases x with
  |agg xs=>exact Ei hP ih t xs y
  |iface t1 v1=>exact yX hP ih t t1 v1 y
  |pointer a=>exact Eh hP hF d t a y
  |int k a=>
   cases y with
   |pointer p=>cases p<;>rcases a with(_|a)|a<;>simp only[aa]<;>(unfold Op.equalIn;refine(ai hP t).bind λe=> ?_;dsimp only[id];cases e<;>first|exact .dead trivial|exact a9 _ rfl|exact ar (a9 _ rfl) (.dead trivial)|exact a9 _ (jk hF.1 _ _))
   |_=>simp only[aa];(unfold Op.equalIn;refine(ai hP t).bind λe=> ?_;dsimp only[id];cases e<;>first|exact .dead trivial|exact a9 _ rfl|exact ar (a9 _ rfl) (.dead trivial)|exact a9 _ (jk hF.1 _ _))
  |slice a l c=>
   cases y with
   |pointer p=>cases a<;>cases p<;>simp only[aa,Option.map_none,Option.map_some]<;>(unfold Op.equalIn;refine(ai hP t).bind λe=> ?_;dsimp only[id];cases e<;>first|exact .dead trivial|exact a9 _ rfl|exact ar (a9 _ rfl) (.dead trivial)|exact a9 _ (jk hF.1 _ _))
   |slice p l2 c2=>cases a<;>cases p<;>simp only[aa,Option.map_none,Option.map_some]<;>(unfold Op.equalIn;refine(ai hP t).bind λe=> ?_;dsimp only[id];cases e<;>first|exact .dead trivial|exact a9 _ rfl|exact ar (a9 _ rfl) (.dead trivial)|exact a9 _ (jk hF.1 _ _))
   |_=>cases a<;>simp only[aa,Option.map_none,Option.map_some]<;>(unfold Op.equalIn;refine(ai hP t).bind λe=> ?_;dsimp only[id];cases e<;>first|exact .dead trivial|exact a9 _ rfl|exact ar (a9 _ rfl) (.dead trivial)|exact a9 _ (jk hF.1 _ _))
  |map a=>
   cases y with
   |pointer p=>cases a<;>cases p<;>simp only[aa,Option.map_none,Option.map_some]<;>(unfold Op.equalIn;refine(ai hP t).bind λe=> ?_;dsimp only[id];cases e<;>first|exact .dead trivial|exact a9 _ rfl|exact ar (a9 _ rfl) (.dead trivial)|exact a9 _ (jk hF.1 _ _))
   |map p=>cases a<;>cases p<;>simp only[aa,Option.map_none,Option.map_some]<;>(unfold Op.equalIn;refine(ai hP t).bind λe=> ?_;dsimp only[id];cases e<;>first|exact .dead trivial|exact a9 _ rfl|exact ar (a9 _ rfl) (.dead trivial)|exact a9 _ (jk hF.1 _ _))
   |_=>cases a<;>simp only[aa,Option.map_none,Option.map_some]<;>(unfold Op.equalIn;refine(ai hP t).bind λe=> ?_;dsimp only[id];cases e<;>first|exact .dead trivial|exact a9 _ rfl|exact ar (a9 _ rfl) (.dead trivial)|exact a9 _ (jk hF.1 _ _))
  |_=>
   cases y with
   |pointer p=>cases p<;>simp only[aa]<;>(unfold Op.equalIn;refine(ai hP t).bind λe=> ?_;dsimp only[id];cases e<;>first|exact .dead trivial|exact a9 _ rfl|exact ar (a9 _ rfl) (.dead trivial)|exact a9 _ (jk hF.1 _ _))
   |_=>simp only[aa];(unfold Op.equalIn;refine(ai hP t).bind λe=> ?_;dsimp only[id];cases e<;>first|exact .dead trivial|exact a9 _ rfl|exact ar (a9 _ rfl) (.dead trivial)|exact a9 _ (jk hF.1 _ _))
end
section
variable{ρ:Nat->Nat}{PL PM:Program}{α β:Type}{f:α->β}
theorem rG(hP:aH PL PM):∀(d:Nat) (t:TypeId) (x y:Value),ag ρ PL PM id (Op.eqGuardIn d t x y) (Op.eqGuardIn d t (aa ρ x) (aa ρ y))
 |0,t,x,y=> .dead trivial
 |d+1,t,x,y=>by
  have ih:=rG hP d
  unfold Op.eqGuardIn
  refine(ai hP t).bind λe=> ?_
  dsimp only[id]
  cases e with
  |interface ms=>cases x<;>cases y<;>simp only[aa]<;>exact a9 _ rfl
  |struct fs=>
   cases x with
   |agg xs=>
    cases y with
    |agg ys=>
     simp only[aa]
     refine(tQ (λfd st=> ?_) fs (none,())).bind λst=> ?_
     ·refine ar ?_ (a9 _ rfl)
      refine(eU hP fd.type xs fd.offset).bind λu=> ?_
      refine(eU hP fd.type ys fd.offset).bind λv=> ?_
      refine(ih fd.type u v).bind λq=> ?_
      exact ar (a9 _ rfl) (a9 _ rfl)
     ·dsimp only[id]
      split<;>exact a9 _ rfl
    |_=>simp only[aa];exact a9 _ rfl
   |_=>simp only[aa];exact a9 _ rfl
  |array n e=>
   cases x with
   |agg xs=>
    cases y with
    |agg ys=>
     simp only[aa]
     refine(bS hP e).bind λz=> ?_
     dsimp only[id]
     refine(tR (λi st=> ?_) _ (none,())).bind λst=> ?_
     ·refine(eU hP e xs _).bind λu=> ?_
      refine(eU hP e ys _).bind λv=> ?_
      refine(ih e u v).bind λq=> ?_
      exact ar (a9 _ rfl) (a9 _ rfl)
     ·dsimp only[id]
      split<;>exact a9 _ rfl
    |_=>simp only[aa];exact a9 _ rfl
   |_=>simp only[aa];exact a9 _ rfl
  |_=>exact a9 _ rfl
theorem Ef(hP:aH PL PM)(op:BinOp)(t:TypeId)(a b:Operand)(x y:Value):ag ρ PL PM id (eqGuard op t a b x y) (eqGuard op t a b (aa ρ x) (aa ρ y)):=by
 unfold eqGuard
 have hg:=rG (ρ:=ρ) hP Op.maxDepth t x y
 refine ar (a9 _ rfl) ?_
 cases x with
 |nilIface=>
  cases y with
  |nilIface=>
   simp only[aa]at hg⊢
   refine ar (a9 _ rfl) ?_
   refine hg.bind λq=> ?_
   exact ar (.dead trivial) (a9 _ rfl)
  |_=>simp only[aa];exact a9 _ rfl
 |agg xs=>
  cases y with
  |agg ys=>
   simp only[aa]at hg⊢
   refine .program (.program ?_)
   simp only[Sem.bind]
   rw[←hP.guard]
   refine ar (a9 _ rfl) ?_
   refine hg.bind λq=> ?_
   exact ar (.dead trivial) (a9 _ rfl)
  |_=>simp only[aa];exact a9 _ rfl
 |_=>simp only[aa];exact a9 _ rfl
def cS(x y:Value):Bool:=
 match x,y with
 | .int _ _, .int _ _| .float _ _, .float _ _| .complex _ _ _, .complex _ _ _| .string _, .string _=>true
 |_,_=>false
theorem vp(x y:Value):cS (aa ρ x) (aa ρ y)=cS x y:=by
 cases x<;>cases y<;>simp only[aa,cS]
theorem zT(t:TypeId){x y:Value}(h:cS x y=false):binOp .eql t x y=(do pure (.bool (←Op.equal t x y))):=by
 cases x<;>cases y<;>first|rfl|(simp[cS]at h;done)
theorem zS(t:TypeId){x y:Value}(h:cS x y=false):binOp .neq t x y=(do pure (.bool (!(←Op.equal t x y)))):=by
 cases x<;>cases y<;>first|rfl|(simp[cS]at h;done)
theorem sC(hP:aH PL PM)(op:BinOp)(t:TypeId){x y:Value}(h:cS x y=true):ag ρ PL PM (aa ρ) (binOp op t x y) (binOp op t (aa ρ x) (aa ρ y)):=by
 cases x with
 |int k a=>
  cases y with
  |int k' b=>
   simp only[aa]
   cases op with
   |shl=>exact xf hP .shl k a k' b
   |shr=>exact xf hP .shr k a k' b
   |add=>exact ar (.dead trivial) (jd .add k a b)
   |sub=>exact ar (.dead trivial) (jd .sub k a b)
   |mul=>exact ar (.dead trivial) (jd .mul k a b)
   |quo=>exact ar (.dead trivial) (tP hP .quo k a b)
   |rem=>exact ar (.dead trivial) (tP hP .rem k a b)
   |and=>exact ar (.dead trivial) (iR .and k a b)
   |or=>exact ar (.dead trivial) (iR .or k a b)
   |xor=>exact ar (.dead trivial) (iR .xor k a b)
   |andNot=>exact ar (.dead trivial) (iR .andNot k a b)
   |eql=>exact ar (.dead trivial) (iq .eql a b)
   |neq=>exact ar (.dead trivial) (iq .neq a b)
   |lss=>exact ar (.dead trivial) (iq .lss a b)
   |leq=>exact ar (.dead trivial) (iq .leq a b)
   |gtr=>exact ar (.dead trivial) (iq .gtr a b)
   |geq=>exact ar (.dead trivial) (iq .geq a b)
  |_=>simp[cS]at h
 |float k a=>
  cases y with
  |float k' b=>
   simp only[aa]
   cases op<;>first
    |exact ar (.dead trivial) (sA _ _ _ _)
    |exact ar (.dead trivial) (xo _ _ _ _)
  |_=>simp[cS]at h
 |complex k a b=>
  cases y with
  |complex k' c d=>
   simp only[aa]
   cases op<;>exact ar (.dead trivial) (uU _ _ _ _ _ _)
  |_=>simp[cS]at h
 |string a=>
  cases y with
  |string b=>
   simp only[aa]
   rw[show binOp op t (.string a) (.string b)=Op.stringOp op a b by cases op<;>rfl]
   exact pK op a b
  |_=>simp[cS]at h
 |_=>simp[cS]at h
theorem uX(hP:aH PL PM)(op:BinOp)(t:TypeId)(k:IntKind)(n:Int)(p:Option Addr)(h1:op≠ .eql)(h2:op≠ .neq):ag ρ PL PM (aa ρ) (binOp op t (.int k n) (.pointer p)) (binOp op t (.int k n) (.pointer (p.map (au ρ)))):=by
 have hm:=lJ (ρ:=ρ) hP t (.pointer p) (.int k n)
 rw[show aa ρ (.pointer p)= .pointer (p.map (au ρ)) by simp only[aa],show aa ρ (.int k n)= .int k n by simp only[aa]]at hm
 cases op with
 |add=>exact hm
 |and=>
  cases p with
  |none=>exact .dead trivial
  |some a=>exact(cz a).bind λx=>na hP k x.1 _
 |eql=>exact absurd rfl h1
 |neq=>exact absurd rfl h2
 |_=>cases p<;>exact .dead trivial
theorem uW(hP:aH PL PM)(op:BinOp)(t:TypeId)(k:IntKind)(n:Int)(p:Option Addr)(h1:op≠ .eql)(h2:op≠ .neq):ag ρ PL PM (aa ρ) (binOp op t (.pointer p) (.int k n)) (binOp op t (.pointer (p.map (au ρ))) (.int k n)):=by
 have hm:=λn=>lJ (ρ:=ρ) hP t (.pointer p) (.int k n)
 have hq:=pX (ρ:=ρ) hP t (.pointer p) (.int k n)
 simp only[show aa ρ (.pointer p)= .pointer (p.map (au ρ)) by simp only[aa],show∀n,aa ρ (.int k n)= .int k n from λn=>by simp only[aa]]at hm hq
 cases op with
 |add=>
  refine(ai hP t).bind λd=> ?_
  exact ar hq (hm n)
 |sub=>exact hm (-n)
 |rem=>
  cases p with
  |none=>exact .dead trivial
  |some a=>exact(cz a).bind λx=>na hP k x.1 _
 |and=>
  cases p with
  |none=>exact .dead trivial
  |some a=>exact(cz a).bind λx=>na hP k x.1 _
 |eql=>exact absurd rfl h1
 |neq=>exact absurd rfl h2
 |_=>cases p<;>exact .dead trivial
theorem uV(hP:aH PL PM)(hF:EF PL PM ρ)(op:BinOp)(t:TypeId)(p q:Option Addr)(h1:op≠ .eql)(h2:op≠ .neq):ag ρ PL PM (aa ρ) (binOp op t (.pointer p) (.pointer q)) (binOp op t (.pointer (p.map (au ρ))) (.pointer (q.map (au ρ)))):=by
 cases op with
 |eql=>exact absurd rfl h1
 |neq=>exact absurd rfl h2
 |sub=>
  cases p with
  |none=>cases q<;>exact .dead trivial
  |some a=>
   cases q with
   |none=>exact .dead trivial
   |some b=>exact(cz a).bind λx=>(cz b).bind λy=>zb hP hF _ x.1 y.1
 |lss=>
  cases p with
  |none=>cases q<;>exact .dead trivial
  |some a=>
   cases q with
   |none=>exact .dead trivial
   |some b=>exact(cz a).bind λx=>(cz b).bind λy=>kV hP hF _ x.1 y.1
 |leq=>
  cases p with
  |none=>cases q<;>exact .dead trivial
  |some a=>
   cases q with
   |none=>exact .dead trivial
   |some b=>exact(cz a).bind λx=>(cz b).bind λy=>kV hP hF _ x.1 y.1
 |gtr=>
  cases p with
  |none=>cases q<;>exact .dead trivial
  |some a=>
   cases q with
   |none=>exact .dead trivial
   |some b=>exact(cz a).bind λx=>(cz b).bind λy=>kV hP hF _ x.1 y.1
 |geq=>
  cases p with
  |none=>cases q<;>exact .dead trivial
  |some a=>
   cases q with
   |none=>exact .dead trivial
   |some b=>exact(cz a).bind λx=>(cz b).bind λy=>kV hP hF _ x.1 y.1
 |_=>cases p<;>cases q<;>exact .dead trivial
theorem E3(op:BinOp)(t:TypeId){x y:Value}(hs:cS x y=false)(h1:op≠ .eql)(h2:op≠ .neq)(hx:∀p,x= .pointer p->(∀k n,y≠ .int k n)/\∀q,y≠ .pointer q)(hy:∀p,y= .pointer p->∀k n,x≠ .int k n):∃h,binOp op t x y= .halt h/\eb h:=by
 cases x with
 |pointer p=>
  obtain⟨n1,n2⟩:=hx p rfl
  cases y with
  |int k n=>exact absurd rfl (n1 k n)
  |pointer q=>exact absurd rfl (n2 q)
  |_=>cases p<;>cases op<;>first|exact⟨_,rfl,trivial⟩|exact absurd rfl h1|exact absurd rfl h2
 |int k n=>
  cases y with
  |pointer q=>exact absurd rfl (hy q rfl k n)
  |_=>cases op<;>first|exact⟨_,rfl,trivial⟩|exact absurd rfl h1|exact absurd rfl h2|(simp[cS]at hs;done)
 |_=>
  cases y with
  |pointer q=>cases q<;>cases op<;>first|exact⟨_,rfl,trivial⟩|exact absurd rfl h1|exact absurd rfl h2
  |_=>cases op<;>first|exact⟨_,rfl,trivial⟩|exact absurd rfl h1|exact absurd rfl h2|(simp[cS]at hs;done)
theorem IP(hP:aH PL PM)(hF:EF PL PM ρ)(op:BinOp)(t:TypeId)(x y:Value):ag ρ PL PM (aa ρ) (binOp op t x y) (binOp op t (aa ρ x) (aa ρ y)):=by
 cases hs:cS x y with
 |true=>exact sC hP op t hs
 |false=>
  have hs':=(vp (ρ:=ρ) x y).trans hs
  by_cases h1:op= .eql
  ·subst h1
   rw[zT t hs,zT t hs']
   exact ag.bind (rH hP hF _ t x y) λb=>a9 _ (by simp[aa])
  ·by_cases h2:op= .neq
   ·subst h2
    rw[zS t hs,zS t hs']
    exact ag.bind (rH hP hF _ t x y) λb=>a9 _ (by simp[aa])
   ·by_cases hd:(∀p,x= .pointer p->(∀k n,y≠ .int k n)/\∀q,y≠ .pointer q)/\∀p,y= .pointer p->∀k n,x≠ .int k n
    ·obtain⟨h,e,he⟩:=E3 op t hs h1 h2 hd.1 hd.2
     rw[e]
     exact .dead he
    ·cases x with
     |pointer p=>
      cases y with
      |int k n=>
       have:=uW (ρ:=ρ) hP op t k n p h1 h2
       rwa [show aa ρ (.pointer p)= .pointer (p.map (au ρ)) by simp only[aa],show aa ρ (.int k n)= .int k n by simp only[aa]]
      |pointer q=>
       have:=uV (ρ:=ρ) hP hF op t p q h1 h2
       rwa [show aa ρ (.pointer p)= .pointer (p.map (au ρ)) by simp only[aa],show aa ρ (.pointer q)= .pointer (q.map (au ρ)) by simp only[aa]]
      |_=>exact absurd ⟨λ_ _=>⟨λ_ _ h=>by simp at h,λ_ h=>by simp at h⟩,λ_ h=>by simp at h⟩ hd
     |int k n=>
      cases y with
      |pointer q=>
       have:=uX (ρ:=ρ) hP op t k n q h1 h2
       rwa [show aa ρ (.pointer q)= .pointer (q.map (au ρ)) by simp only[aa],show aa ρ (.int k n)= .int k n by simp only[aa]]
      |_=>exact absurd ⟨λ_ h=>by simp at h,λ_ h=>by simp at h⟩ hd
     |_=>exact absurd ⟨λ_ h=>by simp at h,λ_ _ _ _ h=>by simp at h⟩ hd
end
def CY(ρ:Nat->Nat):Place->Place
 | .val v=> .val (aa ρ v)
 | .var a=> .var (au ρ a)
section
variable{ρ:Nat->Nat}{PL PM:Program}{α β:Type}{f:α->β}
theorem yT(hP:aH PL PM)(t:TypeId)(x:Place):ag ρ PL PM (aa ρ) (x.get t) ((CY ρ x).get t):=by
 cases x with
 |val v=>exact a9 _ rfl
 |var a=>exact iQ hP t a
theorem oI(hP:aH PL PM):∀(l:List FieldStep) (t:TypeId) (x:Place),ag ρ PL PM (λy=>(y.1,CY ρ y.2)) (follow l t x) (follow l t (CY ρ x))
 |[],t,x=>a9 _ rfl
 |s::rest,t,x=>by
  have ih:=oI hP rest
  unfold follow
  refine(ai hP s.struct).bind λe=> ?_
  dsimp only[id]
  cases e with
  |struct fs=>
   dsimp only
   cases fs[s.index]? with
   |none=>exact .dead trivial
   |some fd=>
    dsimp only
    refine ar ?_ ?_
    ·refine(yT hP t x).bind λv=> ?_
     refine(ka hP v).bind λa=> ?_
     refine(js hP a fd).bind λb=> ?_
     exact ih fd.type (.var b)
    ·cases x with
     |var a=>
      refine(js hP a fd).bind λb=> ?_
      exact ih fd.type (.var b)
     |val v=>
      cases v with
      |agg cs=>
       simp only[CY,aa]
       refine(eU hP fd.type cs fd.offset).bind λu=> ?_
       exact ih fd.type (.val u)
      |_=>exact .dead trivial
  |_=>exact .dead trivial
theorem iT(l:Nat){k:Loop->Sem α}{k':Loop->Sem β}(h:∀r,bQ (.loop r)=true->ag ρ PL PM f (k r) (k' (uo ρ r))):ag ρ PL PM f (Instr.getLoop l>>=k) (Instr.getLoop (ρ l)>>=k'):=by
 unfold Instr.getLoop
 refine .getObj λo ho=> ?_
 cases o with
 |loop r=>exact h r ho
 |_=>exact .dead trivial
theorem mr(hP:aH PL PM)(l:Nat):ag ρ PL PM id (Instr.beginRound l) (Instr.beginRound (ρ l)):=by
 unfold Instr.beginRound
 refine iT l λr hr=> ?_
 refine .setObj (o:= .loop {r with state:= .busy}) hr ?_
 show ag ρ PL PM id (match r.state with| .ready=>_| .done=>_| .busy=>_| .exhausted=>_) (match r.state with| .ready=>_| .done=>_| .busy=>_| .exhausted=>_)
 cases r.state with
 |ready=>exact a9 _ rfl
 |_=>exact fP hP rfl
theorem pP(l:Nat)(jump:Option Code)(hj:jump.all (eM false)=true):ag ρ PL PM (aa ρ) (Instr.endRound l jump) (Instr.endRound (ρ l) jump):=by
 unfold Instr.endRound
 refine iT l λr hr=> ?_
 refine .setObj (o:= .loop {r with state:=if jump.isNone then .ready else .done,pending:=jump}) ?_ (a9 _ (by simp[aa]))
 simp only[bQ,Bool.and_eq_true]at hr⊢
 exact⟨⟨hr.1.1,hj⟩,hr.2⟩
theorem n0(hP:aH PL PM)(l:Nat):ag ρ PL PM id (Instr.endLoop l) (Instr.endLoop (ρ l)):=by
 unfold Instr.endLoop
 refine iT l λr hr=> ?_
 show ag ρ PL PM id (if (r.state==LoopState.busy)=true then _ else _) (if (r.state==LoopState.busy)=true then _ else _)
 refine ar (iP hP rfl _ _) ?_
 exact .setObj (o:= .loop {r with state:= .exhausted}) hr (a9 _ rfl)
theorem gU(b:Nat):ag ρ PL PM (List.map (lq ρ)) (Instr.takeDeferred b) (Instr.takeDeferred (ρ b)):=by
 unfold Instr.takeDeferred
 refine .getObj λo ho=> ?_
 cases o with
 |deferred ds=>
  cases ds with
  |none=>exact .dead trivial
  |some ds=>exact .setObj (o:= .deferred none) rfl (a9 _ rfl)
 |_=>exact .dead trivial
theorem kS(fn:FuncId)(tmps:Array Value)(params:Array Tmp)(assign body:Code)(around:Option Nat)(h1:eM false assign=true)(h2:eM false body=true)(h3:fn≠aV):
 ag ρ PL PM (λx=>(ρ x.1,x.2.map (lq ρ))) (Instr.enterLoop fn tmps params assign body around) (Instr.enterLoop fn (tmps.map (aa ρ)) params assign body (around.map ρ)):=by
 unfold Instr.enterLoop
 have hq:∀d,bQ (.loop {state:= .ready,pending:=none,fn,tmps,params,assign,body,defers:=d})=true:=λd=>by simp[bQ,h1,h2,h3]
 cases around with
 |none=>
  refine .new (o:= .deferred (some [])) rfl λb=> ?_
  exact .new (o:= .loop {state:= .ready,pending:=none,fn,tmps,params,assign,body,defers:=b}) (hq b) λn=>a9 _ (by simp[lq,JF])
 |some l=>
  simp only[Option.map_some]
  refine iT l λr hr=> ?_
  exact .new (o:= .loop {state:= .ready,pending:=none,fn,tmps,params,assign,body,defers:=r.defers}) (hq _) λn=>a9 _ rfl
end
def ea(ρ:Nat->Nat):Next->Next
 | .value v=> .value (aa ρ v)
 | .enter f args=> .enter f (args.map (aa ρ))
 | .round l f tmps a b=> .round (ρ l) f (tmps.map (aa ρ)) a b
 |n=>n
section
variable{ρ:Nat->Nat}{PL PM:Program}{α β:Type}{f:α->β}
theorem yQ(hP:aH PL PM)(ts:Array TypeId)(t:TypeId)(p:Value)(a b:ByteArray):ag ρ PL PM (aa ρ) (Builtin.ssaWrapNilChk_ ts t #[p, .string a, .string b]) (Builtin.ssaWrapNilChk_ ts t #[aa ρ p, .string a, .string b]):=by
 cases p with
 |pointer p=>
  rw[show aa ρ (.pointer p)= .pointer (p.map (au ρ)) by simp only[aa]]
  unfold Builtin.ssaWrapNilChk_
  cases p with
  |some a=>
   show ag ρ PL PM (aa ρ) (pure (Value.pointer (some a))) (pure (Value.pointer (some (au ρ a))))
   exact a9 _ (by simp[aa])
  |none=>
   refine .choose λn=> ?_
   refine ar (iP hP rfl _ _) ?_
   cases ts[0]? with
   |none=>exact .dead trivial
   |some pt=>
    refine(ai hP pt).bind λd=> ?_
    dsimp only[id]
    cases d with
    |pointer t=>
     dsimp only
     refine(bU hP t).bind λi=> ?_
     dsimp only[id]
     split
     ·split
      ·split
       ·exact fP hP rfl
       ·exact .dead trivial
      ·exact .dead trivial
     ·exact .dead trivial
    |_=>exact .dead trivial
 |_=>exact .dead trivial
theorem mp(hP:aH PL PM)(t:TypeId)(x:Place)(ptr:Bool)(w:Option String):ag ρ PL PM (aa ρ) (receiverAt t x ptr w) (receiverAt t (CY ρ x) ptr w):=by
 unfold receiverAt
 refine(ai hP t).bind λd=> ?_
 dsimp only[id]
 have hg:=yT (ρ:=ρ) hP t x
 cases d with
 |pointer e=>
  cases ptr with
  |true=>cases x<;>exact hg
  |false=>
   dsimp only
   refine hg.bind λv=> ?_
   cases w with
   |none=>
    simp only[pure_bind]
    exact(ka hP v).bind λa=>iQ hP e a
   |some name=>
    exact(yQ hP _ _ v _ _).bind λp=>(ka hP p).bind λa=>iQ hP e a
 |_=>
  cases ptr with
  |true=>
   cases x with
   |var a=>exact a9 (Value.pointer (some a)) (by simp[aa])
   |val v=>exact .dead trivial
  |false=>cases x<;>exact hg
theorem rF(hP:aH PL PM)(t:TypeId)(v:Value)(path:Array FieldStep)(ptr:Bool):ag ρ PL PM (aa ρ) (receiverVia t v path ptr) (receiverVia t (aa ρ v) path ptr):=by
 unfold receiverVia
 exact(oI hP path.toList t (.val v)).bind λy=>mp hP y.1 y.2 ptr none
theorem tO(hP:aH PL PM):∀(n:Nat) (t:TypeId) (v:Value) (name:String),ag ρ PL PM (λy=>(y.1,aa ρ y.2)) (method n t v name) (method n t (aa ρ v) name)
 |0,t,v,name=> .dead trivial
 |n+1,t,v,name=>by
  have ih:=tO hP n
  unfold method
  refine(bU hP t).bind λi=> ?_
  dsimp only[id]
  cases i.methods.find? (·.name==name)with
  |none=>exact .dead trivial
  |some m=>
   refine(oI hP m.path.toList t (.val v)).bind λy=> ?_
   dsimp only
   cases m.func with
   |none=>
    refine(yT hP y.1 y.2).bind λu=> ?_
    cases u with
    |iface t' v'=>simp only[aa];exact ih t' v' name
    |nilIface=>simp only[aa];exact fP hP rfl
    |_=>simp only[aa];exact .dead trivial
   |some p=>exact(mp hP y.1 y.2 p.2 _).bind λr=>a9 _ rfl
theorem xp(hP:aH PL PM):∀(l:List FieldStep) (t:TypeId) (x:Option Value),ag ρ PL PM (λy=>y.map λz=>(z.1,z.2.map (aa ρ))) (followBlind l t x) (followBlind l t (x.map (aa ρ)))
 |[],t,x=>a9 _ rfl
 |s::rest,t,x=>by
  have ih:=xp hP rest
  unfold followBlind
  refine(ai hP s.struct).bind λe=> ?_
  dsimp only[id]
  cases e with
  |struct fs=>
   dsimp only
   cases fs[s.index]? with
   |none=>exact .dead trivial
   |some fd=>
    dsimp only
    cases s.deref with
    |true=>
     cases x with
     |none=>exact a9 _ rfl
     |some v=>
      cases v with
      |pointer p=>
       rw[show(some (Value.pointer p)).map (aa ρ)=some (.pointer (p.map (au ρ))) by simp only[Option.map_some,aa]]
       cases p with
       |none=>exact a9 _ rfl
       |some a=>exact ih fd.type none
      |_=>exact .dead trivial
    |false=>
     cases x with
     |none=>exact ih fd.type none
     |some v=>
      cases v with
      |agg cs=>
       rw[show(some (Value.agg cs)).map (aa ρ)=some (.agg (cs.map (aa ρ))) by simp only[Option.map_some,aa]]
       exact(eU hP fd.type cs fd.offset).bind λu=>ih fd.type (some u)
      |_=>exact .dead trivial
  |_=>exact .dead trivial
theorem pN(hP:aH PL PM):∀(n:Nat) (t:TypeId) (v:Value) (name:String),ag ρ PL PM id (nilAhead n t v name) (nilAhead n t (aa ρ v) name)
 |0,t,v,name=>a9 _ rfl
 |n+1,t,v,name=>by
  have ih:=pN hP n
  unfold nilAhead
  refine(bU hP t).bind λi=> ?_
  dsimp only[id]
  cases i.methods.find? (·.name==name)with
  |none=>exact .dead trivial
  |some m=>
   refine(xp hP m.path.toList t (some v)).bind λy=> ?_
   cases y with
   |error r=>exact a9 _ rfl
   |ok z=>
    obtain⟨xt,x⟩:=z
    simp only[Except.map]
    cases m.func with
    |none=>
     cases x with
     |none=>exact a9 _ rfl
     |some u=>
      cases u with
      |iface t' v'=>simp only[Option.map_some,aa];exact ih t' v' name
      |nilIface=>simp only[Option.map_some,aa];exact a9 _ rfl
      |_=>exact .dead trivial
    |some p=>
     obtain⟨g,b⟩:=p
     cases b with
     |true=>cases x<;>exact a9 _ rfl
     |false=>
      refine(ai hP xt).bind λd=> ?_
      dsimp only[id]
      cases d with
      |pointer e=>
       cases x with
       |none=>exact a9 _ rfl
       |some u=>
        cases u with
        |pointer q=>
         rw[show(some (Value.pointer q)).map (aa ρ)=some (.pointer (q.map (au ρ))) by simp only[Option.map_some,aa]]
         cases q<;>exact a9 _ rfl
        |_=>simp only[Option.map_some,aa];exact a9 _ rfl
      |_=>cases x<;>exact a9 _ rfl
def Ln(ρ:Nat->Nat)(PL PM:Program)(g:FuncId):Prop:=
 ∀fn,PL.funcs[g]?=some fn→fn.name≠ "runtime.NumGoroutine" ∧
  ((fn.body.isSome=true∧∃fn',PM.funcs[g]?=some fn'∧fn'.body.isSome=true∧fn'.name≠ "runtime.NumGoroutine")∨
   (fn.body=none∧Extern.findNext fn=none∧Extern.find fn=none∧(fn.name.endsWith ".init" && !fn.name.startsWith "(" && !fn.name.startsWith "gosem.")=false)∨
   (fn.body=none/\Extern.findNext fn=none/\PM.funcs[g]?=some fn/\∃e,Extern.find fn=some e/\∀args,ag ρ PL PM (aa ρ) (e args) (e (args.map (aa ρ)))))
theorem lK(g:FuncId)(hg:Ln ρ PL PM g)(args:Array Value):ag ρ PL PM (ea ρ) (callFunc g args) (callFunc g (args.map (aa ρ))):=by
 unfold callFunc
 refine .program ?_
 simp only[Sem.bind]
 cases h1:PL.funcs[g]? with
 |none=>exact .dead trivial
 |some fn=>
  obtain⟨hn,hc⟩:=hg fn h1
  have hn':(fn.name== "runtime.NumGoroutine")=false:=by simpa using hn
  dsimp only
  rw[hn']
  simp only[Bool.false_eq_true,↓reduceIte]
  rcases hc with⟨hb,fn',h2,hb',hn2⟩|⟨hb,e1,e2,e3⟩|⟨hb,e1,h2,e,e2,e3⟩
  ·have hn2':(fn'.name== "runtime.NumGoroutine")=false:=by simpa using hn2
   rw[h2]
   dsimp only
   rw[hn2']
   have q1:fn.body.isNone=false:=by rw[Option.isNone_eq_false_iff];exact hb
   have q2:fn'.body.isNone=false:=by rw[Option.isNone_eq_false_iff];exact hb'
   rw[q1,q2]
   simp only[Bool.false_eq_true,↓reduceIte]
   exact a9 _ rfl
  ·rw[hb,e1,e2,e3]
   exact .deadMark trivial
  ·rw[h2]
   dsimp only
   rw[hn',hb,e1,e2]
   refine .mark rfl ?_
   exact(e3 args).bind λv=>a9 _ rfl
theorem jt(hP:aH PL PM)(hg:∀g,Ln ρ PL PM g)(r:Value)(name:String)(args:Array Value):ag ρ PL PM (ea ρ) (callMethod r name args) (callMethod (aa ρ r) name (args.map (aa ρ))):=by
 unfold callMethod
 cases r with
 |iface t v=>
  simp only[aa]
  refine .program ?_
  simp only[Sem.bind]
  rw[←hP.types]
  refine(tO hP _ t v name).bind λy=> ?_
  have:=lK y.1 (hg y.1) (#[y.2]++args)
  simpa only[Array.map_append,List.map_toArray,List.map_cons,List.map_nil]using this
 |nilIface=>simp only[aa];exact fP hP rfl
 |_=>simp only[aa];exact .dead trivial
theorem zj(ρ:Nat->Nat):∀(l:List (Tmp×Value)) (tmps:Array Value),(l.map λx=>(x.1,aa ρ x.2)).foldl (λts x=>ts.setIfInBounds x.1 x.2) (tmps.map (aa ρ))=(l.foldl (λts x=>ts.setIfInBounds x.1 x.2) tmps).map (aa ρ)
 |[],tmps=>rfl
 |x::l,tmps=>by
  simp only[List.map_cons,List.foldl_cons]
  rw[←Array.map_setIfInBounds,zj ρ l]
theorem E8(l:Nat)(args:Array Value):ag ρ PL PM (ea ρ) (Instr.yield l args) (Instr.yield (ρ l) (args.map (aa ρ))):=by
 unfold Instr.yield
 refine iT l λr hr=> ?_
 rw[Array.size_map]
 refine ar (.dead trivial) (a9 _ ?_)
 simp only[ea,uo,Next.round.injEq,true_and,and_true]
 have:=zj ρ (r.params.zip args).toList r.tmps
 rw[←Array.foldl_toList,←Array.foldl_toList]
 rw[←this]
 congr 1
 simp[Array.zip_eq_zipWith,List.zipWith_map_right,List.map_zipWith]
end
section
variable{ρ:Nat->Nat}{PL PM:Program}{α β:Type}{f:α->β}
theorem bc{s s':Sem Value}(h:ag ρ PL PM (aa ρ) s s'):ag ρ PL PM (ea ρ) (do pure (.value (←s))) (do pure (.value (←s'))):=h.bind λ_=>a9 _ rfl
theorem uQ{s s':Sem Unit}(h:ag ρ PL PM id s s'):ag ρ PL PM (ea ρ) (do s;pure .skip) (do s';pure .skip):=h.bind λ_=>a9 _ rfl
theorem za(hP:aH PL PM)(hF:EF PL PM ρ)(b:Builtin)(hb:FR b=true)(ts:Array TypeId)(t:TypeId)(cs:Array Bool)(args:Array Value):ag ρ PL PM (ea ρ) (builtin b ts t cs args) (builtin b ts t cs (args.map (aa ρ))):=by
 cases b with
 |append=>exact bc (C0 hP hF.1 ts t args)
 |cap=>exact bc (IM hP ts t args)
 |copy=>exact bc (GG hP ts t args)
 |len=>exact bc (IL hP ts t args)
 |min=>exact bc (IK ts t args)
 |unsafeSliceData=>exact bc (mZ hP ts t args)
 |unsafeString=>exact bc (pW hP ts t args)
 |_=>simp[FR]at hb
theorem pO(hP:aH PL PM)(hg:∀g,Ln ρ PL PM g)(fn:Fn)(cap args:Array Value):ag ρ PL PM (ea ρ) (invoke (.fn fn cap) args) (invoke (.fn (j8 ρ fn) (cap.map (aa ρ))) (args.map (aa ρ))):=by
 cases fn with
 |func g=>
  have:=lK g (hg g) (args++cap)
  rw[Array.map_append]at this
  exact this
 |method name=>
  unfold invoke
  simp only[j8]
  rw[Array.getElem?_map]
  cases args[0]? with
  |none=>exact .dead trivial
  |some r=>
   have:=jt hP hg r name (args.extract 1 args.size)
   rw[Array.map_extract]at this
   simp only[Option.map_some,Array.size_map]
   exact this
 |methodOf t name=>
  unfold invoke
  simp only[j8]
  rw[Array.getElem?_map]
  cases args[0]? with
  |none=>exact .dead trivial
  |some r=>
   simp only[Option.map_some,Array.size_map]
   refine(ai hP t).bind λd=> ?_
   dsimp only[id]
   have h1:=jt hP hg r name (args.extract 1 args.size)
   have h2:=jt hP hg (.iface t r) name (args.extract 1 args.size)
   rw[Array.map_extract]at h1 h2
   rw[show aa ρ (.iface t r)= .iface t (aa ρ r) by simp only[aa]]at h2
   cases d with
   |interface ms=>exact h1
   |_=>exact h2
 |via t path g ptr=>
  unfold invoke
  simp only[j8]
  rw[Array.getElem?_map]
  cases args[0]? with
  |none=>exact .dead trivial
  |some r=>
   simp only[Option.map_some,Array.size_map]
   refine(rF hP t r path ptr).bind λv=> ?_
   have:=lK g (hg g) (#[v]++args.extract 1 args.size)
   rw[Array.map_append,Array.map_extract]at this
   simpa only[List.map_toArray,List.map_cons,List.map_nil]using this
 |yield l=>exact E8 l args
variable{ev ev':Operand->Value}{z:Bool}
theorem evs(he:∀x,l9 z x=true->ev' x=aa ρ (ev x)){xs:Array Operand}(h:xs.all (l9 z)=true):xs.map ev'=(xs.map ev).map (aa ρ):=by
 rw[Array.map_map]
 refine Array.map_congr_left λx hx=> ?_
 exact he x (Array.all_eq_true'.1 h x hx)
theorem KG(he:∀x,l9 z x=true->ev' x=aa ρ (ev x)){x:Option Operand}(h:x.all (l9 z)=true):x.map ev'=(x.map ev).map (aa ρ):=by
 cases x with
 |none=>rfl
 |some x=>simp only[Option.map_some];rw[he x h]
theorem Lj(he:∀x,l9 z x=true->ev' x=aa ρ (ev x)){ps:Array (Nat×Operand)}(h:(ps.all λx=>l9 z x.2)=true):(ps.map λ(i,x)=>(i,ev' x))=(ps.map λ(i,x)=>(i,ev x)).map λx=>(x.1,aa ρ x.2):=by
 rw[Array.map_map]
 refine Array.map_congr_left λx hx=> ?_
 have:=he x.2 (Array.all_eq_true'.1 h x hx)
 simp only[Function.comp,this]
theorem GH(hP:aH PL PM)(hF:EF PL PM ρ)(hg:∀g,Ln ρ PL PM g)(he:∀x,l9 z x=true->ev' x=aa ρ (ev x))(c:Call)(t:TypeId)(hc:mN z c=true):
 ag ρ PL PM (ea ρ) (do let d←resolve ev c t;invoke d.target d.args) (do let d←resolve ev' c t;invoke d.target d.args):=by
 unfold resolve
 simp only[mN,Bool.and_eq_true]at hc
 rw[evs he hc.1]
 have h2:=hc.2
 cases hcl:c.callee with
 |builtin b=>
  rw[hcl]at h2
  exact za hP hF b h2 _ _ _ _
 |invoke r name=>rw[hcl]at h2;cases h2
 |value g=>
  rw[hcl]at h2
  dsimp only
  rw[he g h2]
  unfold Deferred.ofValue
  cases ev g with
  |func fn first cap=>
   simp only[aa,pure_bind]
   rw[←Array.map_append]
   exact pO hP hg fn cap _
  |nilFunc=>
   simp only[aa,pure_bind]
   exact fP (e:= .nilDeref) hP rfl
  |_=>simp only[aa];exact .dead trivial
theorem xh(hP:aH PL PM)(v:Value)(x x':Operand)(hx:ev x=v)(hx':ev' x'=aa ρ v){o o':Oper}(ho:o.op= .nilCheck x)(ho':o'.op= .nilCheck x'):ag ρ PL PM (ea ρ) (execOp ev o) (execOp ev' o'):=by
 unfold execOp
 rw[ho,ho']
 dsimp only
 rw[hx,hx']
 cases v with
 |pointer p=>
  rw[show aa ρ (.pointer p)= .pointer (p.map (au ρ)) by simp only[aa]]
  cases p with
  |none=>exact fP hP rfl
  |some a=>exact a9 (Next.value (.pointer (some a))) (by simp[ea,aa])
 |nilIface=>simp only[aa];exact fP hP rfl
 |nilFunc=>simp only[aa];exact fP hP rfl
 |func fn first cap=>
  rw[show aa ρ (.func fn first cap)= .func (j8 ρ fn) (first.map (aa ρ)) (cap.map (aa ρ)) by simp only[aa]]
  cases fn with
  |method name=>
   simp only[j8]
   rw[Array.getElem?_map]
   cases first[0]? with
   |none=>exact a9 (Next.value (.func (.method name) first cap)) (by simp[ea,aa,j8])
   |some u=>
    cases u with
    |nilIface=>simp only[Option.map_some,aa];exact fP hP rfl
    |iface t w=>
     simp only[Option.map_some,aa]
     refine .program ?_
     simp only[Sem.bind]
     rw[←hP.types]
     refine(pN hP _ t w name).bind λq=> ?_
     dsimp only[id]
     exact ar (.dead trivial) (a9 (Next.value (.func (.method name) first cap)) (by simp[ea,aa,j8]))
    |_=>simp only[Option.map_some,aa];exact a9 (Next.value (.func (.method name) first cap)) (by simp[ea,aa,j8])
  |_=>exact a9 (Next.value (.func _ first cap)) (by simp[ea,aa])
 |_=>simp only[aa];exact a9 _ (by simp[ea,aa])
theorem uR(hP:aH PL PM)(hF:EF PL PM ρ)(hg:∀g,Ln ρ PL PM g)(he:∀x,l9 z x=true->ev' x=aa ρ (ev x))(o:Oper)(ho:jl z o.op=true):ag ρ PL PM (ea ρ) (execOp ev o) (execOp ev' o):=by
 by_cases hn:∃x,o.op= .nilCheck x
 ·obtain⟨x,hx⟩:=hn
  rw[hx]at ho
  exact xh hP (ev x) x x rfl (he x ho) hx hx
 ·unfold execOp
  cases hop:o.op with
  |nilCheck x=>exact absurd ⟨x,hop⟩ hn
  |move x=>rw[hop]at ho;dsimp only;rw[he x ho];exact a9 _ rfl
  |assign x=>rw[hop]at ho;dsimp only;rw[he x ho];exact a9 _ rfl
  |pick a b c=>
   rw[hop]at ho
   simp only[jl,Bool.and_eq_true]at ho
   dsimp only
   rw[he a ho.1.1,he b ho.1.2,he c ho.2]
   refine(tW (ev a)).bind λq=>a9 _ ?_
   cases q<;>rfl
  |alloc e=>exact bc (Em hP e)
  |box e x=>rw[hop]at ho;dsimp only;rw[he x ho];exact bc (M7 e (ev x))
  |build t ps=>rw[hop]at ho;dsimp only;rw[Lj he ho];exact bc (Ej hP t _)
  |buildSlice t n ps=>rw[hop]at ho;dsimp only;rw[Lj he ho];exact bc (sB hP t n _)
  |load t a=>rw[hop]at ho;dsimp only;rw[he a ho];exact bc (fj hP t _)
  |store t a x=>
   rw[hop]at ho
   simp only[jl,Bool.and_eq_true]at ho
   dsimp only
   rw[he a ho.1,he x ho.2]
   exact uQ (yR hP t _ _)
  |binOp op t x y yt=>
   rw[hop]at ho
   simp only[jl,Bool.and_eq_true]at ho
   dsimp only
   rw[he x ho.1,he y ho.2]
   exact bc ((Ef hP op t x y (ev x) (ev y)).bind λ_=>IP hP hF op t (ev x) (ev y))
  |unOp op t x=>rw[hop]at ho;dsimp only;rw[he x ho];exact bc (E9 op _)
  |convert s d x=>rw[hop]at ho;dsimp only;rw[he x ho];exact bc (yY hP s d _)
  |makeInterface t x=>rw[hop]at ho;dsimp only;rw[he x ho];exact bc (oD hP t _)
  |makeFunc fn a b=>
   rw[hop]at ho
   simp only[jl,Bool.and_eq_true]at ho
   dsimp only
   rw[evs he ho.1.2,evs he ho.2]
   exact bc (xl fn ho.1.1 _ _)
  |makeSlice t l c=>
   rw[hop]at ho
   simp only[jl,Bool.and_eq_true]at ho
   dsimp only
   rw[he l ho.1,he c ho.2]
   exact bc (uS hP t _ _)
  |slice t x l h m=>
   rw[hop]at ho
   simp only[jl,Bool.and_eq_true]at ho
   dsimp only
   rw[he x ho.1.1.1,KG he ho.1.1.2,KG he ho.1.2,KG he ho.2]
   exact bc (yS hP t _ _ _ _)
  |fieldAddr t x i=>rw[hop]at ho;dsimp only;rw[he x ho];exact bc (yU hP t _ i)
  |field t x i=>rw[hop]at ho;dsimp only;rw[he x ho];exact bc (Eg hP t _ i)
  |indexAddr t x i=>
   rw[hop]at ho
   simp only[jl,Bool.and_eq_true]at ho
   dsimp only
   rw[he x ho.1,he i ho.2]
   exact bc (iS hP t _ _)
  |index t x i=>
   rw[hop]at ho
   simp only[jl,Bool.and_eq_true]at ho
   dsimp only
   rw[he x ho.1,he i ho.2]
   exact bc (Ee hP t _ _)
  |extract x i=>rw[hop]at ho;dsimp only;rw[he x ho];exact bc (yV _ i)
  |panic x=>rw[hop]at ho;dsimp only;rw[he x ho];exact bc (Ec _)
  |call c=>rw[hop]at ho;exact GH hP hF hg he c o.type ho
  |_=>rw[hop]at ho;cases ho
end
def cA(ρ:Nat->Nat):Item->Item
 | .inRangeFunc l=> .inRangeFunc (ρ l)
 | .endRangeFunc l=> .endRangeFunc (ρ l)
 | .call d w r s=> .call (lq ρ d) w r (s.map (aa ρ))
 | .extern r a=> .extern r (a.map (aa ρ))
 |i=>i
def jQ:Value->Bool
 | .pointer (some a)=>a.block==dN
 |_=>false
def eT(ρ:Nat->Nat)(v:Value):Value:=if jQ v=true then v else aa ρ v
def iY(ρ:Nat->Nat)(fn:FuncId)(tmps:Array Value):Array Value:=
 tmps.mapIdx λi v=>if (fn==aV&&i==bN)=true then eT ρ v else aa ρ v
def aT(ρ:Nat->Nat)(fr:Frame):Frame:=
 {fr with tmps:=iY ρ fr.fn fr.tmps,todo:=fr.todo.map (cA ρ),defers:=fr.defers.map (lq ρ),roundOf:=fr.roundOf.map ρ}
def kx(z:Bool):Item->Bool
 | .code c=>eM z c
 | .inLoop b| .inScope b=>eM z b
 | .inBlock _=>true
 | .inRegion ops _=>ops.all (FQ z)
 | .inRangeFunc _| .endRangeFunc _| .beginRound=> !z
 | .call ..| .extern ..=>false
def cd(ds:List Deferred):Bool:=ds.all λd=>match d.target with| .collected _=>true|_=>false
structure fJ (fr:Frame):Prop where
 todo:fr.todo.all (kx (fr.fn==aV))=true
 defers:cd fr.defers=true
 mode:fr.mode= .run\/fr.mode= .returning
 kind:fr.kind= .normal
 round:fr.fn=aV->fr.roundOf=none
section
variable{ρ:Nat->Nat}{PL PM:Program}{f:FuncId}
theorem sV(ρ:Nat->Nat)(fn:FuncId)(tmps:Array Value):(iY ρ fn tmps).size=tmps.size:=by simp[iY]
theorem ek(ρ:Nat->Nat)(fn:FuncId)(tmps:Array Value)(t:Nat)(h:(fn==aV&&t==bN)=false):(iY ρ fn tmps)[t]?=(tmps[t]?).map (aa ρ):=by
 simp only[iY,Array.getElem?_mapIdx,h,Bool.false_eq_true,↓reduceIte]
theorem kr(ρ:Nat->Nat)(fn:FuncId)(tmps:Array Value)(t:Nat)(h:(fn==aV&&t==bN)=true):(iY ρ fn tmps)[t]?=(tmps[t]?).map (eT ρ):=by
 simp only[iY,Array.getElem?_mapIdx,h,↓reduceIte]
theorem kq(ρ:Nat->Nat){fn:FuncId}(h:fn≠aV)(tmps:Array Value):iY ρ fn tmps=tmps.map (aa ρ):=by
 have:(fn==aV)=false:=by simpa using h
 apply Array.ext
 ·simp[iY]
 ·intro i h1 h2
  simp[iY,this]
theorem eD(ρ:Nat->Nat):aa ρ undef=undef:=cE ρ undef rfl
theorem fC(fr:Frame)(x:Operand)(h:l9 (fr.fn==aV) x=true):(aT ρ fr).eval x=aa ρ (fr.eval x):=by
 cases x with
 |tmp t=>
  have ht:(fr.fn==aV&&t==bN)=false:=by
   simp only[l9,Bool.not_eq_true']at h
   exact h
  have:=ek ρ fr.fn fr.tmps t ht
  simp only[Frame.eval,aT,Array.getD_eq_getD_getElem?]
  rw[this]
  cases fr.tmps[t]? with
  |none=>exact(eD ρ).symm
  |some v=>rfl
 |const v=>simp only[Frame.eval];exact(cE ρ v h).symm
 |func g=>simp[Frame.eval,aa,j8]
 |global g=>cases h
theorem CX(ρ:Nat->Nat)(fn:FuncId)(tmps:Array Value)(d:Nat)(v:Value)(h:(fn==aV&&d==bN)=false):(iY ρ fn tmps).setIfInBounds d (aa ρ v)=iY ρ fn (tmps.setIfInBounds d v):=by
 apply Array.ext_getElem?
 intro i
 by_cases hi:(fn==aV&&i==bN)=true
 ·rw[kr ρ fn _ i hi]
  have hne:d≠i:=λe=>by subst e;rw[h]at hi;cases hi
  rw[sN hne,sN hne,kr ρ fn _ i hi]
 ·have hi':(fn==aV&&i==bN)=false:=by simpa using hi
  rw[ek ρ fn _ i hi']
  by_cases hd:d=i
  ·subst hd
   rw[Array.getElem?_setIfInBounds,Array.getElem?_setIfInBounds,sV]
   simp only[↓reduceIte]
   split<;>rfl
  ·rw[sN hd,sN hd,ek ρ fn _ i hi']
def bE(fr:Frame):Prop:=∀o d,fr.oper?=some o->o.dst=some d->(fr.fn==aV&&d==bN)=false
theorem er(fr:Frame)(v:Value)(h:fJ fr)(hd:bE fr):(aT ρ fr).finish (aa ρ v)=aT ρ (fr.finish v):=by
 obtain⟨fn,tmps,todo,defers,mode,kind,roundOf⟩:=fr
 cases todo with
 |nil=>rfl
 |cons i k=>
  have hi:=h.todo
  simp only[List.all_cons,Bool.and_eq_true]at hi
  cases i with
  |inRegion ops todo=>
   cases todo with
   |nil=>rfl
   |cons j rest=>
    have hd2:∀d,(ops[j]?).bind (·.dst)=some d->(fn==aV&&d==bN)=false:=λd e=>by
     cases ho:ops[j]? with
     |none=>rw[ho]at e;cases e
     |some o=>rw[ho]at e;exact hd o d ho e
    simp only[aT,Frame.finish,List.map_cons,cA]
    cases e:(ops[j]?).bind (·.dst)with
    |none=>simp
    |some d=>simp[CX ρ fn tmps d v (hd2 d e)]
  |inRangeFunc l=>rfl
  |beginRound=>rfl
  |call d w r s=>cases hi.1
  |extern r a=>cases hi.1
  |_=>rfl
theorem db(fr:Frame)(v:Value)(h:fJ fr):fJ (fr.finish v):=by
 obtain⟨fn,tmps,todo,defers,mode,kind,roundOf⟩:=fr
 have h0:=h
 obtain⟨hi,h2,h3,h4,h5⟩:=h
 cases todo with
 |nil=>exact h0
 |cons i k=>
  simp only[List.all_cons,Bool.and_eq_true]at hi
  cases i with
  |inRegion ops todo=>
   cases todo with
   |nil=>exact h0
   |cons j rest=>exact⟨by simp only[Frame.finish,List.all_cons,Bool.and_eq_true];exact⟨hi.1,hi.2⟩,h2,h3,h4,h5⟩
  |inRangeFunc l=>exact⟨by simp only[Frame.finish,List.all_cons,Bool.and_eq_true];exact⟨hi.1,hi.2⟩,h2,h3,h4,h5⟩
  |beginRound=>exact⟨hi.2,h2,h3,h4,h5⟩
  |call d w r s=>cases hi.1
  |extern r a=>cases hi.1
  |_=>exact h0
theorem Lq(hF:∃fn fn',PL.funcs[f]?=some fn/\PM.funcs[f]?=some fn'/\fn.ntmps=fn'.ntmps/\fn.body=fn'.body)(args:Array Value)(ha:∀v∈args,jQ v=false):Frame.enter PM f (args.map (aa ρ)) .normal=aT ρ (Frame.enter PL f args .normal):=by
 obtain⟨fn,fn',e1,e2,e3,e4⟩:=hF
 simp only[Frame.enter,aT,e1,e2,Option.map_some,Option.getD_some,Option.bind_some,e3,e4,List.map_cons,List.map_nil,cA,Option.map_none,Array.size_map]
 congr 1
 apply Array.ext_getElem?
 intro i
 by_cases hi:(f==aV&&i==bN)=true
 ·rw[kr ρ f _ i hi,←Array.getElem?_map,Array.map_append,Array.map_replicate]
  have h1:args.map (eT ρ)=args.map (aa ρ):=Array.map_congr_left λv hv=>by simp[eT,ha v hv]
  have h2:eT ρ undef=undef:=eD ρ
  rw[h1,h2]
 ·have hi':(f==aV&&i==bN)=false:=by simpa using hi
  rw[ek ρ f _ i hi',←Array.getElem?_map,Array.map_append,Array.map_replicate,eD]
end
def vQ:Next->Bool
 | .value _| .skip| .enter ..| .round ..=>true
 |_=>false
def bO(P:Program)(s:Sem Next):Prop:=∀w n w',s.run P w= .ok n w'->vQ n=true
section
variable{ρ:Nat->Nat}{P PM:Program}
theorem bO.pure{n:Next}(h:vQ n=true):bO P (pure n):=λw m w' e=>by cases e;exact h
theorem bO.halt(x:Halt):bO P (.halt x):=λw m w' e=>by cases e
theorem bO.after{α:Type}{s:Sem α}{k:α->Sem Next}(h:∀a,bO P (k a)):bO P (s>>=k):=λw n w' e=>by
 rw[Sem.run_bind]at e
 cases hs:s.run P w with
 |ok a w1=>rw[hs]at e;exact h a w1 n w' e
 |halt x w1=>rw[hs]at e;cases e
theorem bO.ite{c:Prop}[Decidable c]{A B:Sem Next}(h1:bO P A)(h2:bO P B):bO P (if c then A else B):=by
 split
 ·exact h1
 ·exact h2
theorem bO.rt(e:RuntimeError):bO P (runtimePanic e):=λw n w' h=>by
 obtain⟨x,w1,hx,_⟩:=ip (PL:=P) (α:=Next) e w
 rw[hx]at h
 cases h
theorem eq(s:Sem Value):bO P (do pure (.value (←s))):=bO.after λ_=> .pure rfl
theorem oj(s:Sem Unit):bO P (do s;pure .skip):=bO.after λ_=> .pure rfl
theorem jp(g:FuncId)(hg:Ln ρ P PM g)(args:Array Value):bO P (callFunc g args):=by
 unfold callFunc
 intro w n w' h
 rw[Sem.run_bind]at h
 change (match P.funcs[g]? with|none=>_|some fn=>_:Sem Next).run P w=_ at h
 cases h1:P.funcs[g]? with
 |none=>rw[h1]at h;cases h
 |some fn=>
  rw[h1]at h
  obtain⟨hn,hc⟩:=hg fn h1
  have hn':(fn.name== "runtime.NumGoroutine")=false:=by simpa using hn
  simp only[hn',Bool.false_eq_true,↓reduceIte]at h
  rcases hc with⟨hb,_⟩|⟨hb,e1,e2,e3⟩|⟨hb,e1,_,e,e2,_⟩
  ·have q1:fn.body.isNone=false:=by rw[Option.isNone_eq_false_iff];exact hb
   simp only[q1,Bool.false_eq_true,↓reduceIte]at h
   cases h
   rfl
  ·rw[hb,e1,e2,e3]at h
   cases h
  ·rw[hb,e1,e2]at h
   exact bO.after (P:=P) (s:=mark (.extern g)) (λ_=>eq (e args)) w n w' h
theorem kZ(hg:∀g,Ln ρ P PM g)(r:Value)(name:String)(args:Array Value):bO P (callMethod r name args):=by
 unfold callMethod
 cases r with
 |iface t v=>exact bO.after λp=>bO.after λy=>jp y.1 (hg y.1) _
 |nilIface=>exact bO.rt _
 |_=>exact bO.halt _
theorem yz(l:Nat)(args:Array Value):bO P (Instr.yield l args):=by
 unfold Instr.yield
 refine bO.after λr=> ?_
 exact bO.ite (bO.halt _) (.pure rfl)
theorem mi(hg:∀g,Ln ρ P PM g)(fn:Fn)(cap args:Array Value):bO P (invoke (.fn fn cap) args):=by
 cases fn with
 |func g=>exact jp g (hg g) _
 |method name=>
  unfold invoke
  dsimp only
  cases args[0]? with
  |none=>exact bO.halt _
  |some r=>exact kZ hg _ _ _
 |methodOf t name=>
  unfold invoke
  dsimp only
  cases args[0]? with
  |none=>exact bO.halt _
  |some r=>exact bO.after λd=>kZ hg _ _ _
 |via t path g ptr=>
  unfold invoke
  dsimp only
  cases args[0]? with
  |none=>exact bO.halt _
  |some r=>exact bO.after λd=>jp g (hg g) _
 |yield l=>exact yz l args
theorem uE(b:Builtin)(hb:FR b=true)(ts:Array TypeId)(t:TypeId)(cs:Array Bool)(args:Array Value):bO P (builtin b ts t cs args):=by
 cases b<;>first|exact eq _|(simp[FR]at hb;done)
theorem Be(hg:∀g,Ln ρ P PM g)(ev:Operand->Value){z:Bool}(c:Call)(t:TypeId)(hc:mN z c=true):bO P (do let d←resolve ev c t;invoke d.target d.args):=by
 unfold resolve
 simp only[mN,Bool.and_eq_true]at hc
 have h2:=hc.2
 cases hcl:c.callee with
 |builtin b=>rw[hcl]at h2;exact uE b h2 _ _ _ _
 |invoke r name=>rw[hcl]at h2;cases h2
 |value g=>
  dsimp only
  unfold Deferred.ofValue
  cases ev g with
  |func fn first cap=>exact mi hg fn cap _
  |nilFunc=>exact bO.rt .nilDeref
  |_=>exact bO.halt _
theorem tn(hg:∀g,Ln ρ P PM g)(ev:Operand->Value){z:Bool}(o:Oper)(ho:jl z o.op=true):bO P (execOp ev o):=by
 unfold execOp
 cases hop:o.op with
 |move x=>exact .pure rfl
 |assign x=>exact .pure rfl
 |pick a b c=>exact bO.after λ_=> .pure rfl
 |store t a x=>exact oj _
 |nilCheck x=>
  dsimp only
  split<;>first
   |exact bO.rt _
   |exact .pure rfl
   |(split<;>first
      |exact bO.rt _
      |exact .pure rfl
      |(refine bO.after λ_=>bO.after λ_=> ?_;exact bO.ite (bO.halt _) (.pure rfl)))
 |call c=>rw[hop]at ho;exact Be hg ev c o.type ho
 |_=>first
  |exact eq _
  |(rw[hop]at ho;cases ho)
end
def fH(P:Program)(fr:Frame)(cs:List Frame):Next->Goroutine
 | .value v=>{frame:=fr.finish v,callers:=cs,status:= .running,dying:=none}
 | .enter f args=>{frame:=Frame.enter P f args .normal,callers:=fr::cs,status:= .running,dying:=none}
 | .round l f tmps a b=>{frame:=Frame.round l f tmps a b .normal,callers:=fr::cs,status:= .running,dying:=none}
 |_=>{frame:=fr.finish undef,callers:=cs,status:= .running,dying:=none}
def dE(fr:Frame):Prop:=∀d w r s k,fr.todo≠ .call d w r s::k
theorem fJ.noCall{fr:Frame}(h:fJ fr):dE fr:=λd w r s k e=>by
 have:=h.todo
 rw[e]at this
 simp[kx]at this
section
variable{P:Program}{fr:Frame}{cs:List Frame}{s:Sem Next}{w:World}
theorem cH(hc:dE fr){n:Next}{w':World}{es:Array Event}(hr:s.runT P w #[]=(.ok n w',es))(hn:vQ n=true):
 stepG.apply P true fr cs none s w= .go (fH P fr cs n) w' (seen P fr.fn (if fr.kind== .early then #[]else es)):=by
 have hk:=hc
 unfold stepG.apply
 simp only[hr,↓reduceIte]
 cases n with
 |enter f args=>
  simp only[GStep.after,fH,Array.append_empty]
  split
  ·rename_i e
   exact absurd e (hk _ _ _ _ _)
  ·rfl
 |_=>first
  |(simp[vQ]at hn;done)
  |simp[GStep.after,fH]
theorem kc{es es':Array Event}{x:GStep}{g:Goroutine}(h:GStep.after es x= .go g w es'):∃es1,x= .go g w es1:=by
 cases x<;>simp only[GStep.after,GStep.go.injEq,reduceCtorEq]at h
 obtain⟨rfl,rfl,_⟩:=h
 exact⟨_,rfl⟩
theorem pD{m:String}{w':World}{g:Goroutine}{es:Array Event}(h:endFatal P fr cs none m w= .go g w' es)(hd:g.dying=none):False:=by
 unfold endFatal at h
 dsimp only at h
 split at h
 ·simp only[dieOf,GStep.go.injEq]at h
  obtain⟨rfl,_,_⟩:=h
  cases hd
 ·cases h
 ·cases h
theorem iC(fr:Frame)(chain:List PanicEntry)(hm:fr.mode= .run\/fr.mode= .returning):∃c,(fr.raise chain).mode= .panicking c:=by
 unfold Frame.raise
 rcases hm with h|h<;>rw[h]<;>exact⟨_,rfl⟩
theorem nT(hc:dE fr)(hm:fr.mode= .run\/fr.mode= .returning)(h4:bO P s){listen:Bool}{g:Goroutine}{w':World}{es:Array Event}(h:stepG.apply P listen fr cs none s w= .go g w' es)
 (hq:g.status= .running/\∀c,g.frame.mode≠ .panicking c) (hI:∀k w1,s.run P w≠ .halt (.unsupported (.initOrder k)) w1)
 (hd:g.dying=none):∃n,s.run P w= .ok n w'/\vQ n=true/\g=fH P fr cs n:=by
 have hr:(if listen=true then s.runT P w #[]else(s.run P w,#[])).1=s.run P w:=by
  split
  ·exact Sem.runT_fst P s w #[]
  ·rfl
 unfold stepG.apply at h
 generalize (if listen=true then s.runT P w #[]else(s.run P w,#[]))=q at h hr
 obtain⟨r,es0⟩:=q
 simp only at hr
 subst hr
 simp only at h
 cases hs:s.run P w with
 |ok n w1=>
  rw[hs]at h
  have hn:=h4 w n w1 hs
  cases n with
  |enter f args=>
   simp only[GStep.after,GStep.go.injEq]at h
   obtain⟨rfl,rfl,_⟩:=h
   refine⟨_,rfl,rfl, ?_⟩
   simp only[fH]
   split
   ·rename_i e
    exact absurd e (hc _ _ _ _ _)
   ·rfl
  |_=>first
   |(simp[vQ]at hn;done)
   |(simp only[GStep.after,GStep.go.injEq]at h
     obtain⟨rfl,rfl,_⟩:=h
     exact⟨_,rfl,rfl,rfl⟩)
 |halt x w1=>
  rw[hs]at h
  exfalso
  cases x with
  |panic v=>
   simp only[GStep.after,GStep.go.injEq]at h
   obtain⟨rfl,_,_⟩:=h
   obtain⟨c,e⟩:=iC fr _ hm
   exact hq.2 c e
  |goexit=>
   simp only[GStep.after,GStep.go.injEq]at h
   obtain⟨rfl,_,_⟩:=h
   obtain⟨c,e⟩:=iC fr _ hm
   exact hq.2 c e
  |blocked=>
   simp only[GStep.after,GStep.go.injEq]at h
   obtain⟨rfl,_,_⟩:=h
   cases hq.1
  |waiting=>
   simp only[GStep.after,GStep.go.injEq]at h
   obtain⟨rfl,_,_⟩:=h
   cases hq.1
  |unsupported u=>
   cases u with
   |initOrder k=>exact hI _ _ hs
   |_=>simp[GStep.after]at h
  |stuck m=>simp[GStep.after]at h
  |exit c=>simp[GStep.after]at h
  |throw m=>
   simp only[endThrow,dieOf,GStep.after,GStep.go.injEq]at h
   obtain⟨rfl,_,_⟩:=h
   cases hd
  |fatal m=>
   obtain⟨es1,e1⟩:=kc h
   exact pD e1 hd
end
theorem cT(P:Program)(fn:FuncId)(es:Array Event):∀e∈seen P fn es,e∈es:=by
 intro e he
 unfold seen at he
 dsimp only at he
 revert he
 refine Array.foldl_induction (motive:=λ_ (x:Bool×Array Event)=>e∈x.2->e∈es) (by simp) ?_
 intro i acc ih
 obtain⟨q,kept⟩:=acc
 dsimp only
 split
 ·exact ih
 ·intro h
  dsimp only at h
  split at h
  ·exact ih h
  ·rcases Array.mem_push.1 h with h|h
   ·exact ih h
   ·rw[h];exact Array.getElem_mem _
structure eL (G:Nat) (D:Nat->Prop) (ρ:Nat->Nat) (base:List Frame) (gL gM:Goroutine):Prop where
 frame:∀ρ',aw G D ρ ρ'->gM.frame=aT ρ' gL.frame
 callers:∀ρ',aw G D ρ ρ'->gM.callers=gL.callers.map (aT ρ')++base
 ok:fJ gL.frame
 oks:∀c∈gL.callers,fJ c/\bE c
 run:gL.status= .running/\gM.status= .running/\gL.dying=none/\gM.dying=none
theorem zv(ρ:Nat->Nat)(n:Next):vQ (ea ρ n)=vQ n:=by cases n<;>rfl
theorem rc{f g:Value->Value}{xs:Array Value}(h:xs.map f=xs.map g){v:Value}(hv:v∈xs):f v=g v:=by
 obtain⟨i,hi,rfl⟩:=Array.mem_iff_getElem.1 hv
 have:=congrArg (λys:Array Value=>ys[i]?) h
 simpa[hi]using this
theorem ci.noTab{G T:Nat}{D:Nat->Prop}{ρ:Nat->Nat}{wL wM:World}(h:ci G T D ρ wL wM)(hG:dN<G){v:Value}(hv:∀ρ',aw G D ρ ρ'->aa ρ' v=aa ρ v):jQ v=false:=by
 cases v with
 |pointer p=>
  cases p with
  |none=>rfl
  |some a=>
   have hd:D a.block:=h.dom λρ' h'=>by
    have:=hv ρ' h'
    simp only[aa,Option.map_some,Value.pointer.injEq,Option.some.injEq]at this
    exact congrArg Addr.block this
   have:=h.out _ hd
   simp only[jQ,beq_eq_false_iff_ne]
   omega
 |_=>rfl
section
variable{PL PM:Program}{G T:Nat}{D:Nat->Prop}{ρ:Nat->Nat}{wL wM:World}{base:List Frame}
def jf(PL PM:Program)(f:FuncId):Prop:=∃fn fn',PL.funcs[f]?=some fn/\PM.funcs[f]?=some fn'/\fn.ntmps=fn'.ntmps/\fn.body=fn'.body/\∃c,fn.body=some c/\eM (f==aV) c=true
theorem jc(hG:dN<G)(hV:∀w a b,World.farLoad PM w a b=World.farLoad PL w a b)(hS:∀w a v b,World.farStore PM w a v b=World.farStore PL w a v b)(hW:ci G T D ρ wL wM)
 {fr fr':Frame} {cs cs':List Frame} (hfr:∀ρ',aw G D ρ ρ'->fr'=aT ρ' fr) (hcs:∀ρ',aw G D ρ ρ'->cs'=cs.map (aT ρ')++base) (ok:fJ fr) (oks:∀c∈cs,fJ c/\bE c) (hcalm:bE fr)
 {s s':Sem Next} (hs:∀ρ',aw G D ρ ρ'->ag ρ' PL PM (ea ρ') s s') (h4:bO PL s) (hI:∀k w1,s.run PL wL≠ .halt (.unsupported (.initOrder k)) w1)
 (hE:∀f args w1,s.run PL wL= .ok (.enter f args) w1->jf PL PM f)
 (hR:∀l f tmps a b w1,s.run PL wL= .ok (.round l f tmps a b) w1->eM false a=true/\eM false b=true/\f≠aV)
 {listen:Bool} {gL:Goroutine} {wL':World} {esL:Array Event} (h:stepG.apply PL listen fr cs none s wL= .go gL wL' esL) (hT:wL'.drawn<=T) (hq:gL.status= .running/\∀c,gL.frame.mode≠ .panicking c) (hd:gL.dying=none):
 ∃D' ρ' gM wM' esM,stepG.apply PM true fr' cs' none s' wM= .go gM wM' esM/\eL G D' ρ' base gL gM/\gW G T D ρ wL wM D' ρ' wL' wM'/\∀e∈esM,gC D' ρ' e:=by
 obtain⟨n,hrun,hn,rfl⟩:=nT ok.noCall ok.mode h4 h hq hI hd
 obtain⟨D',ρ1,r',wM',es',e1,e2,e3,e4⟩:=dS hV hS ea s s' D ρ wL wM hW hs #[] _ wL' hrun rfl hT
 cases e2 with
 | @ok _ n' _ _ hn'=>
   have hfr0:=hfr ρ hW.self
   have hc':dE fr':=by
    intro d w r s k e
    rw[hfr0]at e
    have:=ok.noCall
    cases ht:fr.todo with
    |nil=>simp[aT,ht]at e
    |cons i t=>
     simp only[aT,ht,List.map_cons,List.cons.injEq]at e
     cases i<;>simp[cA]at e
     exact this _ _ _ _ _ ht
   have hn1:vQ n'=true:=by rw[hn' ρ1 e3.rel.self,zv];exact hn
   have hst:=cH (cs:=cs') hc' e1 hn1
   refine⟨D',ρ1,_,wM',_,hst, ?_,e3,λe he=> ?_⟩
   ·have hag:=λρ' (h':aw G D' ρ1 ρ')=>aw.of_ran e3 h'
    cases n with
    |value v=>
     refine⟨λρ' h'=> ?_,λρ' h'=> ?_,db fr v ok,oks, ?_⟩
     ·rw[hn' ρ' h']
      show fr'.finish (aa ρ' v)=aT ρ' (fr.finish v)
      rw[hfr ρ' (hag ρ' h'),er fr v ok hcalm]
     ·rw[hn' ρ' h']
      exact hcs ρ' (hag ρ' h')
     ·rw[hn' ρ1 e3.rel.self]
      exact⟨rfl,rfl,rfl,rfl⟩
    |skip=>
     refine⟨λρ' h'=> ?_,λρ' h'=> ?_,db fr undef ok,oks, ?_⟩
     ·rw[hn' ρ' h']
      show fr'.finish undef=aT ρ' (fr.finish undef)
      rw[hfr ρ' (hag ρ' h'),←er fr undef ok hcalm,eD]
     ·rw[hn' ρ' h']
      exact hcs ρ' (hag ρ' h')
     ·rw[hn' ρ1 e3.rel.self]
      exact⟨rfl,rfl,rfl,rfl⟩
    |enter f args=>
     obtain⟨fn,fn',q1,q2,q3,q4,c,q5,q6⟩:=hE f args wL' hrun
     have ha:∀v∈args,jQ v=false:=λv hv=>by
      refine e3.rel.noTab hG λρ' h'=> ?_
      have:=(hn' ρ' h').symm.trans (hn' ρ1 e3.rel.self)
      simp only[ea,Next.enter.injEq,true_and]at this
      exact rc this hv
     refine⟨λρ' h'=> ?_,λρ' h'=> ?_, ?_, ?_, ?_⟩
     ·rw[hn' ρ' h']
      exact Lq ⟨fn,fn',q1,q2,q3,q4⟩ args ha
     ·rw[hn' ρ' h']
      show fr'::cs'=_
      rw[hfr ρ' (hag ρ' h'),hcs ρ' (hag ρ' h')]
      rfl
     ·refine⟨?_,rfl, .inl rfl,rfl,λ_=>rfl⟩
      simp only[fH,Frame.enter,q1,Option.bind_some,q5,Option.getD_some,List.all_cons,List.all_nil,Bool.and_true]
      exact q6
     ·intro x hx
      rcases List.mem_cons.1 hx with rfl|hx
      ·exact⟨ok,hcalm⟩
      ·exact oks x hx
     ·rw[hn' ρ1 e3.rel.self]
      exact⟨rfl,rfl,rfl,rfl⟩
    |round l f tmps a b=>
     obtain⟨q1,q2,q3⟩:=hR l f tmps a b wL' hrun
     refine⟨λρ' h'=> ?_,λρ' h'=> ?_, ?_, ?_, ?_⟩
     ·rw[hn' ρ' h']
      show Frame.round (ρ' l) f (tmps.map (aa ρ')) a b .normal=aT ρ' (Frame.round l f tmps a b .normal)
      simp only[Frame.round,aT,kq ρ' q3,List.map_cons,List.map_nil,cA,Option.map_some]
     ·rw[hn' ρ' h']
      show fr'::cs'=_
      rw[hfr ρ' (hag ρ' h'),hcs ρ' (hag ρ' h')]
      rfl
     ·have hz:(f==aV)=false:=by simpa using q3
      refine⟨?_,rfl, .inl rfl,rfl,λe=>absurd e q3⟩
      simp only[fH,Frame.round,hz,List.all_cons,List.all_nil,Bool.and_true,kx,q1,q2,Bool.not_false]
     ·intro x hx
      rcases List.mem_cons.1 hx with rfl|hx
      ·exact⟨ok,hcalm⟩
      ·exact oks x hx
     ·rw[hn' ρ1 e3.rel.self]
      exact⟨rfl,rfl,rfl,rfl⟩
    |_=>simp[vQ]at hn
   ·have:=cT _ _ _ e he
    split at this
    ·simp at this
    ·exact e4 e (by simpa using this)
end
theorem mS(ρ:Nat->Nat)(id:Nat):∀k:List Item,exitTo id (k.map (cA ρ))=(exitTo id k).map (List.map (cA ρ))
 |[]=>rfl
 |i::k=>by
  have ih:=mS ρ id k
  cases i with
  |inBlock id'=>
   simp only[List.map_cons,cA,exitTo]
   split
   ·rfl
   ·exact ih
  |_=>simp only[List.map_cons,cA,exitTo];exact ih
theorem ol(z:Bool)(id:Nat):∀(k:List Item) {t:List Item},exitTo id k=some t->k.all (kx z)=true->t.all (kx z)=true
 |[],t,h,_=>by cases h
 |i::k,t,h,ha=>by
  simp only[List.all_cons,Bool.and_eq_true]at ha
  cases i with
  |inBlock id'=>
   simp only[exitTo]at h
   split at h
   ·cases h;exact ha.2
   ·exact ol z id k h ha.2
  |_=>simp only[exitTo]at h;exact ol z id k h ha.2
theorem ee(ρ:Nat->Nat)(fn:FuncId)(ops:Array Oper)(tmps:Array Value)(j:Nat):yielded ops (iY ρ fn tmps) j=yielded ops tmps j:=by
 unfold yielded
 cases (ops[j]?).bind (·.dst)with
 |none=>rfl
 |some d=>
  simp only[Option.bind_some]
  by_cases h:(fn==aV&&d==bN)=true
  ·rw[kr ρ fn tmps d h]
   cases tmps[d]? with
   |none=>rfl
   |some v=>
    by_cases ht:jQ v=true
    ·simp[eT,ht]
    ·simp only[Option.map_some,eT,ht]
     cases v<;>simp[aa]
  ·rw[ek ρ fn tmps d (by simpa using h)]
   cases tmps[d]? with
   |none=>rfl
   |some v=>cases v<;>simp[aa]
theorem xG{G:Nat}{D:Nat->Prop}{ρ:Nat->Nat}{base:List Frame}{fr fr':Frame}{cs cs':List Frame}(hfr:∀ρ',aw G D ρ ρ'->fr'=aT ρ' fr)(hcs:∀ρ',aw G D ρ ρ'->cs'=cs.map (aT ρ')++base)(ok:fJ fr)(oks:∀c∈cs,fJ c/\bE c)
 {t t':List Item} (ht:∀ρ',aw G D ρ ρ'->t'=t.map (cA ρ')) (hok:t.all (kx (fr.fn==aV))=true):
 eL G D ρ base {frame:={fr with todo:=t},callers:=cs,status:= .running,dying:=none} {frame:={fr' with todo:=t'},callers:=cs',status:= .running,dying:=none}:=by
 refine⟨λρ' h'=> ?_,hcs,⟨hok,ok.defers,ok.mode,ok.kind,ok.round⟩,oks,rfl,rfl,rfl,rfl⟩
 rw[hfr ρ' h',ht ρ' h']
 rfl
section
variable{PL PM:Program}{G T:Nat}{D:Nat->Prop}{ρ:Nat->Nat}{wL wM:World}{base:List Frame}
def aY(fr:Frame):Option (List Item):=
 match fr.todo with
 | .inRegion _ []::k=>some k
 | .inScope _::k=>some k
 | .inBlock _::k=>some k
 | .inLoop b::k=>some (.code b:: .inLoop b::k)
 | .code c::k=>
   match c with
   | .label _=>some k
   | .skip=>some k
   | .region _ ops false=>some (.inRegion ops (List.range ops.size)::k)
   | .exit id=>exitTo id k
   | .scope b=>some (.code b:: .inScope b::k)
   | .loop b=>some (.code b:: .inLoop b::k)
   | .block id b=>some (.code b:: .inBlock id::k)
   | .cond x a b=>match fr.eval x with| .bool q=>some (.code (if q then a else b)::k)|_=>none
   | .seq a b=>some (.code a:: .code b::k)
   |_=>none
 |_=>none
theorem iF{P:Program}{main listen:Bool}{fr:Frame}{cs:List Frame}{w:World}{t:List Item}(h:aY fr=some t):
 stepG.exec P main listen fr cs none w= .go {frame:={fr with todo:=t},callers:=cs,status:= .running,dying:=none} w:=by
 obtain⟨fn,tmps,todo,defers,mode,kind,roundOf⟩:=fr
 unfold aY at h
 unfold stepG.exec
 cases todo with
 |nil=>cases h
 |cons i k=>
  cases i with
  |code c=>
   cases c with
   |region id ops draw=>cases draw<;>first|(cases h;rfl)|cases h
   |exit id=>simp only at h⊢;rw[h];rfl
   |cond c a b=>
    simp only at h⊢
    split at h
    ·rename_i q e;cases h;rw[e]
    ·cases h
   |_=>first|(cases h;rfl)|cases h
  |inRegion ops todo=>cases todo<;>first|(cases h;rfl)|cases h
  |_=>first|(cases h;rfl)|cases h
theorem sX{fr:Frame}(ok:fJ fr){t:List Item}(h:aY fr=some t):aY (aT ρ fr)=some (t.map (cA ρ)):=by
 have hev:=λx hx=>fC (ρ:=ρ) fr x hx
 have hi:=ok.todo
 unfold aY at h⊢
 rw[show(aT ρ fr).todo=fr.todo.map (cA ρ)from rfl]
 cases ht:fr.todo with
 |nil=>rw[ht]at h;cases h
 |cons i k=>
  rw[ht]at h hi
  simp only[List.all_cons,Bool.and_eq_true]at hi
  cases i with
  |code c=>
   cases c with
   |region id ops draw=>cases draw<;>first|(cases h;rfl)|cases h
   |exit id=>
    simp only[List.map_cons,cA]at h⊢
    rw[mS,h]
    rfl
   |cond x a b=>
    have hx:l9 (fr.fn==aV) x=true:=by
     have:=hi.1
     simp only[kx,eM,Bool.and_eq_true]at this
     exact this.1.1
    simp only[List.map_cons,cA]at h⊢
    rw[hev x hx]
    split at h
    ·rename_i q e;cases h;rw[e];simp[aa,cA]
    ·cases h
   |_=>first|(cases h;rfl)|cases h
  |inRegion ops todo=>cases todo<;>first|(cases h;rfl)|cases h
  |_=>first|(cases h;rfl)|cases h
theorem D3{fr:Frame}(ok:fJ fr){t:List Item}(h:aY fr=some t):t.all (kx (fr.fn==aV))=true:=by
 have hi:=ok.todo
 unfold aY at h
 cases ht:fr.todo with
 |nil=>rw[ht]at h;cases h
 |cons i k=>
  rw[ht]at h hi
  simp only[List.all_cons,Bool.and_eq_true]at hi
  obtain⟨h1,h2⟩:=hi
  cases i with
  |code c=>
   cases c with
   |region id ops draw=>
    cases draw with
    |false=>cases h;simp only[kx,eM]at h1;simp only[List.all_cons,kx,h1,h2,Bool.and_self]
    |true=>cases h
   |exit id=>exact ol _ id k h h2
   |cond x a b=>
    simp only at h
    simp only[kx,eM,Bool.and_eq_true]at h1
    split at h
    ·rename_i q e
     cases h
     cases q
     ·simp[kx,h1.2,h2]
     ·simp[kx,h1.1.2,h2]
    ·cases h
   |seq a b=>
    cases h
    simp only[kx,eM,Bool.and_eq_true]at h1
    simp[kx,h1.1,h1.2,h2]
   |block id b=>cases h;simp only[kx,eM]at h1;simp[kx,h1,h2]
   |loop b=>cases h;simp only[kx,eM]at h1;simp[kx,h1,h2]
   |scope b=>cases h;simp only[kx,eM]at h1;simp[kx,h1,h2]
   |skip=>cases h;exact h2
   |label l=>cases h;exact h2
   |_=>cases h
  |inRegion ops todo=>cases todo<;>first|(cases h;exact h2)|cases h
  |inLoop b=>cases h;simp only[kx]at h1;simp[kx,h1,h2]
  |inBlock id=>cases h;exact h2
  |inScope b=>cases h;exact h2
  |_=>cases h
theorem vJ{fr fr':Frame}{cs cs':List Frame}(hW:ci G T D ρ wL wM)(hfr:∀ρ',aw G D ρ ρ'->fr'=aT ρ' fr)(hcs:∀ρ',aw G D ρ ρ'->cs'=cs.map (aT ρ')++base)(ok:fJ fr)(oks:∀c∈cs,fJ c/\bE c)
 {t:List Item} (h:aY fr=some t) (mL mM lL lM:Bool):∃gL gM,stepG.exec PL mL lL fr cs none wL= .go gL wL/\stepG.exec PM mM lM fr' cs' none wM= .go gM wM/\eL G D ρ base gL gM:=by
 have h':aY fr'=some (t.map (cA ρ)):=by rw[hfr ρ hW.self];exact sX ok h
 refine⟨_,_,iF h,iF h',xG hfr hcs ok oks (λρ' hA=> ?_) (D3 ok h)⟩
 have h1:aY fr'=some (t.map (cA ρ')):=by rw[hfr ρ' hA];exact sX ok h
 exact Option.some.inj (h'.symm.trans h1)
end
section
variable{PL PM:Program}{α β:Type}{f:α->β}{ρ:Nat->Nat}
theorem pp{w:World}(h:ax w)(a:Addr)(why:String):eb (w.noCell a why):=by
 unfold World.noCell
 split
 ·rename_i c e he
  have:=h _ _ he
  cases this
 ·trivial
 ·trivial
theorem uF{p:Program}{w:World}(h:ax w){a:Addr}{b:Bool}{x:Halt}(e:w.farLoad p a b= .error x):eb x:=by
 unfold World.farLoad at e
 split at e
 ·split at e<;>cases e
  trivial
 ·cases e;exact pp h _ _
theorem rZ{p:Program}{w:World}(h:ax w){a:Addr}{v:Value}{b:Bool}{x:Halt}(e:w.farStore p a v b= .error x):eb x:=by
 unfold World.farStore at e
 split at e
 ·split at e<;>cases e
  trivial
 ·cases e;exact pp h _ _
theorem ax.set{w:World}(h:ax w)(r:Nat){o:Obj}(ho:bQ o=true):ax {w with heap:=w.heap.setIfInBounds r o}:=by
 intro b x hb
 dsimp only at hb
 rw[Array.getElem?_setIfInBounds]at hb
 split at hb
 ·split at hb
  ·exact Option.some.inj hb▸ho
  ·cases hb
 ·exact h b x hb
theorem ax.modify{w:World}(h:ax w)(r:Nat){g:Obj->Obj}(hg:∀o,bQ o=true->bQ (g o)=true):ax {w with heap:=w.heap.modify r g}:=by
 intro b x hb
 dsimp only at hb
 rw[Array.getElem?_modify]at hb
 split at hb
 ·cases ho:w.heap[b]? with
  |none=>rw[ho]at hb;cases hb
  |some o=>
   rw[ho]at hb
   exact Option.some.inj hb▸hg o (h b o ho)
 ·exact h b x hb
theorem ax.setCell{w:World}(h:ax w)(a:Addr)(v:Value):ax (w.setCell a v):=by
 unfold World.setCell
 refine h.modify a.block λo ho=> ?_
 cases o<;>first|exact ho|(dsimp only;split<;>rfl)|rfl
theorem ax.freeze{w:World}(h:ax w)(a:Addr)(n:Nat):ax (w.freeze a n):=by
 unfold World.freeze
 split
 ·exact h
 ·refine h.modify a.block λo ho=> ?_
  cases o<;>first|exact ho|rfl
theorem gh{p:Program}{w w1:World}(h:ax w){a:Addr}{v:Value}{b:Bool}{tc:List Addr}(e:w.farStore p a v b= .ok (w1,tc)):ax w1:=by
 unfold World.farStore at e
 split at e
 ·rename_i at_ u he
  split at e
  ·rename_i r hr
   cases e
   cases hy:w.seen p at_ u a b with
   |error x=>
    unfold World.viewStore at hr
    by_cases ht:(!tight p p.depth u)=true
    ·rw[if_pos ht]at hr;cases hr
    ·rw[if_neg ht,hy]at hr;cases hr
   |ok y=>
    obtain⟨c,e0,fr,hc⟩:=kn hy
    obtain⟨c1,e1,_⟩:=ge p (w':={w with heap:=w.heap.setIfInBounds at_.block (.cells (c.map (aa λx=>x)) e0 fr)}) (λx=>x) hc (by simp[bY hc]) hr
    rw[e1]
    exact h.set at_.block rfl
  ·cases e
 ·cases e
theorem eZ{s:Sem α}{s':Sem β}(h:ag ρ PL PM f s s'):∀w,ax w->∀k w',s.run PL w= .halt k w'->eb k:=by
 induction h with
 |pure a=>intro w hw k w' e;cases e
 | @load a k0 k1 h ih=>
   intro w hw k w' e
   rw[Sem.run]at e
   cases hc:w.cell? a with
   |some v=>rw[hc]at e;exact ih v w hw k w' e
   |none=>
    rw[hc]at e
    cases hx:w.farLoad PL a (Mode.plain==Mode.atomic)with
    |ok y=>rw[hx]at e;exact ih y.1 w hw k w' e
    |error x=>
     rw[hx]at e
     cases e
     exact uF hw hx
 | @store a v k0 k1 h ih=>
   intro w hw k w' e
   cases hone:nJ v with
   |false=>
    obtain⟨why,hy⟩:=fp (p:=PL) (w:=w) (m:= .plain) (a:=a) (k:=k0) hone
    rw[hy]at e
    cases e
    trivial
   |true=>
    rw[eO hone]at e
    cases hc:w.cell? a with
    |some u=>
     simp only[hc]at e
     split at e
     ·cases e;trivial
     ·exact ih _ (hw.setCell a v) k w' e
    |none=>
     simp only[hc]at e
     cases hx:w.farStore PL a v (Mode.plain==Mode.atomic)with
     |ok y=>rw[hx]at e;exact ih y.1 (gh hw hx) k w' e
     |error x=>
      rw[hx]at e
      cases e
      exact rZ hw hx
 |new ho h ih=>intro w hw k w' e;exact ih _ _ (hw.push ho) k w' e
 |shape h ih=>intro w hw k w' e;exact ih _ w hw k w' e
 |freeze h ih=>intro w hw k w' e;exact ih _ (hw.freeze _ _) k w' e
 |frozen h ih=>intro w hw k w' e;exact ih _ w hw k w' e
 | @getObj r k0 k1 h ih=>
   intro w hw k w' e
   rw[Sem.run]at e
   split at e
   ·cases e;trivial
   ·rename_i o ho _
    exact ih o (hw _ _ ‹_›) w hw k w' e
   ·cases e;trivial
 | @setObj r o k0 k1 ho h ih=>
   intro w hw k w' e
   rw[Sem.run]at e
   split at e
   ·cases e;trivial
   ·exact ih _ (hw.set r ho) k w' e
   ·cases e;trivial
 | @choose q k0 k1 h ih=>
   intro w hw k w' e
   rw[Sem.run]at e
   split at e
   ·exact ih _ w hw k w' e
   ·exact ih _ {w with drawn:=w.drawn+1} hw k w' e
 |program h ih=>intro w hw k w' e;exact ih w hw k w' e
 |mark hm h ih=>intro w hw k w' e;exact ih w hw k w' e
 |panic v=>intro w hw k w' e;cases e;trivial
 |dead d=>intro w hw k w' e;cases e;exact d
 |deadMark d=>intro w hw k w' e;cases e;exact d
 | @sys c k0 s0 d=>
   intro w hw k w' e
   obtain⟨x,w1,hx,hd⟩:=d (w.sys c).1 (w.sys c).2
   rw[Sem.run,hx]at e
   cases e
   exact hd.1
theorem dG{s:Sem α}{s':Sem β}(h:ag ρ PL PM f s s')(w:World)(hw:ax w)(k:Nat)(w':World):s.run PL w≠ .halt (.unsupported (.initOrder k)) w':=λe=>eZ h w hw _ w' e
end
structure Env (PL PM:Program) (G:Nat):Prop where
 same:aH PL PM
 gl:PL.globals.size=G
 tab:dN<G
 gm:PM.globals.size=G
 load:∀w a b,World.farLoad PM w a b=World.farLoad PL w a b
 store:∀w a v b,World.farStore PM w a v b=World.farStore PL w a v b
 fn:∀(ρ:Nat->Nat) (g:FuncId),Ln ρ PL PM g
section
variable{PL PM:Program}{G T:Nat}{D:Nat->Prop}{ρ:Nat->Nat}{wL wM:World}{base:List Frame}
theorem Env.far(E:Env PL PM G){ρ':Nat->Nat}(h:aw G D ρ ρ'):EF PL PM ρ':=⟨h.1.1,λb=>by rw[E.gl,E.gm];exact h.1.2 b⟩
theorem io{P:Program}{main listen:Bool}{fr:Frame}{cs:List Frame}{w:World}{ops:Array Oper}{i:Nat}{rest:List Nat}{k:List Item}{o:Oper}{z:Bool}
 (ht:fr.todo= .inRegion ops (i::rest)::k) (ho:ops[i]?=some o) (hw:Region.wanted o (yielded ops fr.tmps)=true) (hop:jl z o.op=true):
 stepG.exec P main listen fr cs none w=stepG.apply P listen fr cs none (execOp fr.eval o) w:=by
 unfold stepG.exec
 simp only[ht,ho,Option.map_some,Option.getD_some,hw,↓reduceIte]
 unfold stepG.oper
 simp only[Frame.oper?,ht,ho]
 split
 ·rename_i e
  rw[e]at hop
  cases hop
 ·rfl
theorem y5(E:Env PL PM G)(hW:ci G T D ρ wL wM)(hP:ax wL)
 {fr fr':Frame} {cs cs':List Frame} (hfr:∀ρ',aw G D ρ ρ'->fr'=aT ρ' fr) (hcs:∀ρ',aw G D ρ ρ'->cs'=cs.map (aT ρ')++base) (ok:fJ fr) (oks:∀c∈cs,fJ c/\bE c) (hcalm:bE fr)
 {ops:Array Oper} {i:Nat} {rest:List Nat} {k:List Item} {o:Oper} (ht:fr.todo= .inRegion ops (i::rest)::k) (ho:ops[i]?=some o) (hw:Region.wanted o (yielded ops fr.tmps)=true) (hop:jl (fr.fn==aV) o.op=true)
 (hE:∀f args w1,(execOp fr.eval o).run PL wL= .ok (.enter f args) w1->jf PL PM f)
 (hR:∀l f tmps a b w1,(execOp fr.eval o).run PL wL= .ok (.round l f tmps a b) w1->eM false a=true/\eM false b=true/\f≠aV)
 {mL mM lL:Bool} {gL:Goroutine} {wL':World} {esL:Array Event} (h:stepG.exec PL mL lL fr cs none wL= .go gL wL' esL) (hT:wL'.drawn<=T) (hq:gL.status= .running/\∀c,gL.frame.mode≠ .panicking c) (hd:gL.dying=none):
 ∃D' ρ' gM wM' esM,stepG.exec PM mM true fr' cs' none wM= .go gM wM' esM/\eL G D' ρ' base gL gM/\gW G T D ρ wL wM D' ρ' wL' wM'/\∀e∈esM,gC D' ρ' e:=by
 have hfr0:=hfr ρ hW.self
 have ht':fr'.todo= .inRegion ops (i::rest)::k.map (cA ρ):=by rw[hfr0];show fr.todo.map (cA ρ)=_;rw[ht];rfl
 have hw':Region.wanted o (yielded ops fr'.tmps)=true:=by
  rw[hfr0]
  have:yielded ops (aT ρ fr).tmps=yielded ops fr.tmps:=funext λj=>ee ρ fr.fn ops fr.tmps j
  rw[this]
  exact hw
 have hal:∀ρ',aw G D ρ ρ'->ag ρ' PL PM (ea ρ') (execOp fr.eval o) (execOp fr'.eval o):=λρ' hA=>
  uR (z:=fr.fn==aV) E.same (E.far hA) (E.fn ρ') (λx hx=>by rw[hfr ρ' hA];exact fC fr x hx) o hop
 rw[io ht ho hw hop]at h
 rw[io ht' ho hw' hop]
 exact jc E.tab E.load E.store hW hfr hcs ok oks hcalm hal (tn (E.fn ρ) fr.eval o hop) (λk w1=>dG (hal ρ hW.self) wL hP k w1) hE hR h hT hq hd
end
section
variable{PL PM:Program}{α β:Type}{f:α->β}{ρ:Nat->Nat}
theorem cj{s:Sem α}{s':Sem β}(h:ag ρ PL PM f s s'):∀w,ax w->∀a w',s.run PL w= .ok a w'->ax w':=by
 induction h with
 |pure a=>intro w hw k w' e;cases e;exact hw
 | @load a k0 k1 h ih=>
   intro w hw k w' e
   rw[Sem.run]at e
   cases hc:w.cell? a with
   |some v=>rw[hc]at e;exact ih v w hw k w' e
   |none=>
    rw[hc]at e
    cases hx:w.farLoad PL a (Mode.plain==Mode.atomic)with
    |ok y=>rw[hx]at e;exact ih y.1 w hw k w' e
    |error x=>rw[hx]at e;cases e
 | @store a v k0 k1 h ih=>
   intro w hw k w' e
   cases hone:nJ v with
   |false=>
    obtain⟨why,hy⟩:=fp (p:=PL) (w:=w) (m:= .plain) (a:=a) (k:=k0) hone
    rw[hy]at e
    cases e
   |true=>
    rw[eO hone]at e
    cases hc:w.cell? a with
    |some u=>
     simp only[hc]at e
     split at e
     ·cases e
     ·exact ih _ (hw.setCell a v) k w' e
    |none=>
     simp only[hc]at e
     cases hx:w.farStore PL a v (Mode.plain==Mode.atomic)with
     |ok y=>rw[hx]at e;exact ih y.1 (gh hw hx) k w' e
     |error x=>rw[hx]at e;cases e
 |new ho h ih=>intro w hw k w' e;exact ih _ _ (hw.push ho) k w' e
 |shape h ih=>intro w hw k w' e;exact ih _ w hw k w' e
 |freeze h ih=>intro w hw k w' e;exact ih _ (hw.freeze _ _) k w' e
 |frozen h ih=>intro w hw k w' e;exact ih _ w hw k w' e
 | @getObj r k0 k1 h ih=>
   intro w hw k w' e
   rw[Sem.run]at e
   split at e
   ·cases e
   ·rename_i o ho _
    exact ih o (hw _ _ ‹_›) w hw k w' e
   ·cases e
 | @setObj r o k0 k1 ho h ih=>
   intro w hw k w' e
   rw[Sem.run]at e
   split at e
   ·cases e
   ·exact ih _ (hw.set r ho) k w' e
   ·cases e
 | @choose q k0 k1 h ih=>
   intro w hw k w' e
   rw[Sem.run]at e
   split at e
   ·exact ih _ w hw k w' e
   ·exact ih _ {w with drawn:=w.drawn+1} hw k w' e
 |program h ih=>intro w hw k w' e;exact ih w hw k w' e
 |mark hm h ih=>intro w hw k w' e;exact ih w hw k w' e
 |panic v=>intro w hw k w' e;cases e
 |dead d=>intro w hw k w' e;cases e
 |deadMark d=>intro w hw k w' e;cases e
 | @sys c k0 s0 d=>
   intro w hw k w' e
   obtain⟨x,w1,hx,hd⟩:=d (w.sys c).1 (w.sys c).2
   rw[Sem.run,hx]at e
   cases e
theorem AL{w:World}(h:ax w)(c:Sys):ax (w.sys c).2:=by
 have hask:∀{γ:Type} (a:Ask γ) (w:World),(w.ask a).2.heap=w.heap:=by
  intro γ a
  induction a with
  |done a=>intro w;rfl
  |ask what range k ih=>
   intro w
   unfold World.ask
   dsimp only
   split
   ·exact ih _ w
   ·exact ih _ {w with drawn:=w.drawn+1}
 intro b o ho
 refine h b o ?_
 rw[←ho]
 unfold World.sys
 have:=hask (Kernel.perform c w.os) w
 split
 ·rfl
 ·rename_i r os w1 _ hx
  rw[hx]at this
  exact congrArg (λhp:Array Obj=>hp[b]?) this.symm
theorem eH{s:Sem α}{s':Sem β}(h:ag ρ PL PM f s s'):∀w,ax w->∀a w',s.run PL w= .halt a w'->ax w':=by
 induction h with
 |pure a=>intro w hw k w' e;cases e
 | @load a k0 k1 h ih=>
   intro w hw k w' e
   rw[Sem.run]at e
   cases hc:w.cell? a with
   |some v=>rw[hc]at e;exact ih v w hw k w' e
   |none=>
    rw[hc]at e
    cases hx:w.farLoad PL a (Mode.plain==Mode.atomic)with
    |ok y=>rw[hx]at e;exact ih y.1 w hw k w' e
    |error x=>rw[hx]at e;cases e;exact hw
 | @store a v k0 k1 h ih=>
   intro w hw k w' e
   cases hone:nJ v with
   |false=>
    obtain⟨why,hy⟩:=fp (p:=PL) (w:=w) (m:= .plain) (a:=a) (k:=k0) hone
    rw[hy]at e
    cases e
    exact hw
   |true=>
    rw[eO hone]at e
    cases hc:w.cell? a with
    |some u=>
     simp only[hc]at e
     split at e
     ·cases e;exact hw
     ·exact ih _ (hw.setCell a v) k w' e
    |none=>
     simp only[hc]at e
     cases hx:w.farStore PL a v (Mode.plain==Mode.atomic)with
     |ok y=>rw[hx]at e;exact ih y.1 (gh hw hx) k w' e
     |error x=>rw[hx]at e;cases e;exact hw
 |new ho h ih=>intro w hw k w' e;exact ih _ _ (hw.push ho) k w' e
 |shape h ih=>intro w hw k w' e;exact ih _ w hw k w' e
 |freeze h ih=>intro w hw k w' e;exact ih _ (hw.freeze _ _) k w' e
 |frozen h ih=>intro w hw k w' e;exact ih _ w hw k w' e
 | @getObj r k0 k1 h ih=>
   intro w hw k w' e
   rw[Sem.run]at e
   split at e
   ·cases e;exact hw
   ·rename_i o ho _
    exact ih o (hw _ _ ‹_›) w hw k w' e
   ·cases e;exact hw
 | @setObj r o k0 k1 ho h ih=>
   intro w hw k w' e
   rw[Sem.run]at e
   split at e
   ·cases e;exact hw
   ·exact ih _ (hw.set r ho) k w' e
   ·cases e;exact hw
 | @choose q k0 k1 h ih=>
   intro w hw k w' e
   rw[Sem.run]at e
   split at e
   ·exact ih _ w hw k w' e
   ·exact ih _ {w with drawn:=w.drawn+1} hw k w' e
 |program h ih=>intro w hw k w' e;exact ih w hw k w' e
 |mark hm h ih=>intro w hw k w' e;exact ih w hw k w' e
 |panic v=>intro w hw k w' e;cases e;exact hw
 |dead d=>intro w hw k w' e;cases e;exact hw
 |deadMark d=>intro w hw k w' e;cases e;exact hw
 | @sys c k0 s0 d=>
   intro w hw k w' e
   obtain⟨x,w1,hx,hd⟩:=d (w.sys c).1 (w.sys c).2
   rw[Sem.run,hx]at e
   cases e
   exact hd.2 (AL hw c)
end
section
variable{PL PM:Program}{G T:Nat}{D:Nat->Prop}{ρ:Nat->Nat}{wL wM:World}{base:List Frame}
theorem im{P:Program}{main listen:Bool}{fr:Frame}{cs:List Frame}{w:World}{ops:Array Oper}{i:Nat}{rest:List Nat}{k:List Item}
 (ht:fr.todo= .inRegion ops (i::rest)::k) (hw:((ops[i]?).map (Region.wanted · (yielded ops fr.tmps))).getD false=false):
 stepG.exec P main listen fr cs none w= .go {frame:=fr.finish undef,callers:=cs,status:= .running,dying:=none} w:=by
 unfold stepG.exec
 simp only[ht,hw,Bool.false_eq_true,↓reduceIte]
theorem qA(hW:ci G T D ρ wL wM){fr fr':Frame}{cs cs':List Frame}(hfr:∀ρ',aw G D ρ ρ'->fr'=aT ρ' fr)(hcs:∀ρ',aw G D ρ ρ'->cs'=cs.map (aT ρ')++base)(ok:fJ fr)(oks:∀c∈cs,fJ c/\bE c)(hcalm:bE fr)
 {ops:Array Oper} {i:Nat} {rest:List Nat} {k:List Item} (ht:fr.todo= .inRegion ops (i::rest)::k) (hw:((ops[i]?).map (Region.wanted · (yielded ops fr.tmps))).getD false=false) (mL mM lL lM:Bool):
 ∃gL gM,stepG.exec PL mL lL fr cs none wL= .go gL wL/\stepG.exec PM mM lM fr' cs' none wM= .go gM wM/\eL G D ρ base gL gM:=by
 have hfr0:=hfr ρ hW.self
 have ht':fr'.todo= .inRegion ops (i::rest)::k.map (cA ρ):=by rw[hfr0];show fr.todo.map (cA ρ)=_;rw[ht];rfl
 have hw':((ops[i]?).map (Region.wanted · (yielded ops fr'.tmps))).getD false=false:=by
  rw[hfr0]
  have:yielded ops (aT ρ fr).tmps=yielded ops fr.tmps:=funext λj=>ee ρ fr.fn ops fr.tmps j
  rw[this]
  exact hw
 refine⟨_,_,im ht hw,im ht' hw',λρ' h'=> ?_,hcs,db fr undef ok,oks,rfl,rfl,rfl,rfl⟩
 show fr'.finish undef=aT ρ' (fr.finish undef)
 rw[hfr ρ' h',←er fr undef ok hcalm,eD]
end
end Go.Proofs.YtkmoglhgkcnalaaDoor
