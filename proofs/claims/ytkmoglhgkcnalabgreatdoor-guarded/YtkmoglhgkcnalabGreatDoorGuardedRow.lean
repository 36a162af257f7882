/- Proved: 'lintelkeep.Guarded' returns true for every input that the row lets in, on every schedule of the goroutines that the call starts, without a data race, and its arguments read a_ they did: the image A alone, of version 3, starts just if its key is vouched for, its version is not below the least one and the state lets it; else the outcome tells why. Conditions: the row's own (the table of the hash holds what the program's text lays). -/
import Derived.Test.YtkmoglhgkcnalabGreatDoorCards
import Derived.Test.YtkmoglhgkcnalabGreatDoorTie
import Derived.ProofKit
import Derived.ChangeArms
import Derived.ChangeSame
import Derived.OpenShut
import Derived.ShutString
import Derived.ChangeOld
import Derived.Below
import Derived.Deep.DeepHandedRow
import Derived.Lib.LaidTab
import Derived.Conc.Holds
import Derived.SevenTiedAt
import Derived.Test.YtkmoglhgkcnalabGreatDoorOwn10
set_option maxHeartbeats 16000000
set_option maxRecDepth 100000
namespace Go.Proofs.YtkmoglhgkcnalabGreatDoor
open Go
variable{n b i N l m k j b3 b4 b7 b9 Wg wd:Nat}{w w' w0 wL wM wE:World}{fr:Frame}{v:Value}{cs:List Frame}{args cv:Array Value}{V RO D V0:Nat->Prop}{q main listen ql:Bool}{g:Goroutine}{a:Act}{K:List Item}{P PL PM:Program}{x:Operand}{ops:Array Oper}{KS:List Int}{t u:TypeId}{o:Oper}{f:FuncId}{es:Array Event}{Goal:Goroutine->World->Prop}{fn:Func}{rest:List Nat}{ds:List Deferred}{X:bS}{F:List (Nat×Value)}{e:Event}{listed:Array Bool}{c:Int}{s msg key sig:ByteArray}{ρ:Nat->Nat}{ev:Operand->Value}{Post:Value->World->Prop}
namespace L1
open Go.Conc Go.RowKit
theorem MK(seed body:ByteArray)(least how:Int)(hl: -9223372036854775808<=least/\least<9223372036854775808)(hh: -9223372036854775808<=how/\how<9223372036854775808)(hs:seed.size<=140737488351232)(_:body.size<=140737488351232)(w:World)(A:w.rangeAt 0 0 (aH d8))(z:0<w.heap.size):
 Calls lT 6 #[.s seed, .s body, .i least, .i how] w λe w'=>e= .returned (.bool true)/\Bw w w':=by
 refine aT (t:=8) Lf.func6 rfl λcs=> ?_;rw[aV (N:=89) [.s seed, .s body, .i least, .i how] Lf.func6 Pf rfl];have b:=aN [.s seed, .s body, .i least, .i how] 89 s_;have G:∀{w':World},Bw w w'->w'.rangeAt 0 0 (aH d8)/\0<w'.heap.size:=λK=>⟨SA z K A,Nat.lt_of_lt_of_le z K.size⟩;refine Rn.uc b λa b=> ?_;refine Rn.cw b Lf.func8 (rm w A z) λw1 O a b=> ?_
 iterate 2 refine Rn.uc b λa b=> ?_
 refine Rn.cl b Lf.func10 (rn (seed:=seed) bQ o_ 1 d_ (G O).1 (G O).2) λv U g a b=> ?_;obtain⟨I,rfl,Z,a5,b2⟩:=g;have B2:=aB O O.size b2;have s2:=B2.size;refine Rn.al b (λo d=>zY d) λw3 a b3 c3 z3 b=> ?_;refine Rn.nn b (λo d=>zh d (b.G 10) (b.G 20) c3 rfl) λa b=> ?_;have a2:=bH Z;have M:=co (cs:=gR (gi d8 seed) seed I) (t:=27) c3;have J:=(cn (cs:=gR (gi d8 seed) seed I) (t:=27) (o_:I≠U.heap.size)).trans (bk b3 Z);have E:=(aB B2 s2 b3).trans (cM (cs:=gR (gi d8 seed) seed I) (t:=27) s2);revert M J E;generalize gy w3 U.heap.size (gR (gi d8 seed) seed I) 27=w4;intro M J E;refine Rn.vv b (λo d=>dl d (b.G 10) M) λa b=> ?_;refine Rn.uc b λa b=> ?_;refine Rn.cw b Lf.func11 (xB (seed:=seed) bQ (dc ..) o_ (aY ..) (aY ..) (cW ..) (cW ..) 1 d_ body ⟨#[]⟩ J (G E).1 (G E).2) λw5 T a b=> ?_;have B5:=aB E E.size T;have b:aW [(2, .i least),(3, .i how),(9, .bool true),(10, .pt U.heap.size),(23, .s (sA d8 seed 1 body++sB d8 seed 1 ⟨#[]⟩))] 89 [] a:=b.only ⟨rfl,rfl,rfl,rfl,rfl,trivial⟩;refine Rn.uc b λa b=> ?_;refine Rn.vv b (λo d=>dl d (b.G 10) (bk T M)) λa b=> ?_;refine Rn.cw b Lf.func14 (qj (rt:=Bo d8 seed 1) (dc ..) (bk T J) rfl (aY ..)) λw6 b6 a b=> ?_;have B6:=aB B5 B5.size b6;refine Rn.cw b Lf.func13 (fv d8 (pi (gi d8 seed) (Bo d8 seed 1)) w6 (G B6).1 bQ (by rw[jK (gi d8 seed) (Bo d8 seed 1) (dc ..) (aY ..)];omega)) λw7 b7 a b=> ?_;have B7:=aB B6 B6.size b7;have b:aW [(2, .i least),(3, .i how),(9, .bool true),(11, .s (sA d8 seed 1 body++sB d8 seed 1 ⟨#[]⟩)),(26, .s (jN d8 seed 1))] 89 [] a:=b.only ⟨rfl,rfl,rfl,rfl,rfl,trivial⟩;clear O b2 b3 c3 M Z J T b6 b7 z3 a2
 iterate 2 refine Rn.uc b λa b=> ?_
 refine Rn.cl (R:=λv w'=>(∃p:Nat,v= .i p/\p<17)/\w'=w7) b Lf.func9 ((iY least 17 w7 d_ hl.1 o_).mono λe w' h=>by obtain⟨⟨v,rfl,g⟩,rfl⟩:=h;exact⟨_,rfl,⟨v.toNat,by rw[Int.toNat_of_nonneg g.1],o_⟩,rfl⟩) λv w8 g a b=> ?_
 obtain⟨⟨n,rfl,hn⟩,rfl⟩:=g
 iterate 2 refine Rn.uc b λa b=> ?_
 refine Rn.cl b Lf.func12 (gK (fa (KS:=d8) (seed:=seed) (used:=1)) 3855 3 1 0 d_) λv w9 g a b=> ?_;obtain⟨gb,a4,L,rfl,a3,y,Y,b9⟩:=g;have u:=aB B7 B7.size b9
 iterate 3 refine Rn.uc b λa b=> ?_
 refine Rn.cl (R:=λv w'=>(∃p:Nat,v= .i p/\p<7)/\w'=w9) b Lf.func9 ((iY how 7 w9 d_ hh.1 o_).mono λe w' h=>by obtain⟨⟨v,rfl,g⟩,rfl⟩:=h;exact⟨_,rfl,⟨v.toNat,by rw[Int.toNat_of_nonneg g.1],o_⟩,rfl⟩) λv V g a b=> ?_
 obtain⟨⟨p,rfl,hp⟩,rfl⟩:=g;have b:aW [(9, .bool true),(11, .s (sA d8 seed 1 body++sB d8 seed 1 ⟨#[]⟩)),(12, .s (jN d8 seed 1)),(13, .i n),(14, .sk gb 85 a4),(15, .i 0),(32, .i p)] 89 [] a:=b.only ⟨rfl,rfl,rfl,rfl,rfl,rfl,rfl,trivial⟩;have C:∀(F:Int),0<=F/\F<65536->∀le X:Nat,le<=16->gD (jp F (gU le) 1 X (jN d8 seed 1) 4):=λF a1 le X h=>GY F _ a1 ⟨(oA h).2.2.2.1,(oA h).2.2.2.2⟩ 1 X _;rcases(o_:p=0\/p=1\/p=2\/p=3\/p=4\/p=5\/p=6)with rfl|rfl|rfl|rfl|rfl|rfl|rfl
 ·
  refine Rn.vv b (λo d=>ca (m:=0) (n:=0) d (b.G 32) rfl) λa b=> ?_;refine Rn.uc b λa b=> ?_;refine Rn.p rfl (Rn.cond _ (b.G 33) ?_)
  iterate 2 refine Rn.uc b λa b=> ?_
  refine Rn.cl b Lf.func12 (gK (fa (KS:=d8) (seed:=seed) (used:=1)) 3855 n 1 0 o_) λv B g a b=> ?_;obtain⟨S,r,q,rfl,_,_,f,k⟩:=g;refine Rn.uc b λa b=> ?_;refine Rn.uc b λa b=> ?_;refine Rn.vv b (λo d=>nl (m:=n) (n:=3) d (b.G 38) rfl) λa b=> ?_;refine Rn.p rfl (Rn.cond _ (b.G 39) ?_);by_cases h3:3<n
  ·rw[decide_eq_true o_];refine Rn.uc b λa b=> ?_;exact Rn.p rfl (kx (want:=7) (C 3855 d_ n 0 o_) i4 (λj s m c h=>(Ak (.inr rfl) o_ h).1 h3) A z (aB u u.size k) f (b.only ⟨rfl,rfl,rfl,rfl,trivial⟩) λa w' l b=>Rn.fi b ⟨rfl,l⟩)
  ·rw[decide_eq_false o_];exact Rn.p rfl (kx (want:=0) (C 3855 d_ n 0 o_) i4 (λj s m c h=>(Ak (.inr rfl) o_ h).2.2 o_ rfl) A z (aB u u.size k) f (b.only ⟨rfl,rfl,rfl,rfl,trivial⟩) λa w' l b=>Rn.fi b ⟨rfl,l⟩)
 ·
  refine Rn.vv b (λo d=>ca (m:=1) (n:=0) d (b.G 32) rfl) λa b=> ?_;refine Rn.uc b λa b=> ?_;refine Rn.p rfl (Rn.cond _ (b.G 33) ?_);refine Rn.vv b (λo d=>ca (m:=1) (n:=1) d (b.G 32) rfl) λa b=> ?_;refine Rn.uc b λa b=> ?_;refine Rn.p rfl (Rn.cond _ (b.G 40) ?_)
  iterate 1 refine Rn.uc b λa b=> ?_
  refine Rn.cl b Lf.func12 (gK (fa (KS:=d8) (seed:=seed) (used:=1)) 255 3 1 1 o_) λv B g a b=> ?_;obtain⟨S,r,q,rfl,_,_,f,k⟩:=g;refine Rn.uc b λa b=> ?_;refine Rn.uc b λa b=> ?_;exact Rn.p rfl (kx (want:=8) (C 255 d_ 3 1 d_) i4 (λj s m c h=>(Ak (.inl rfl) d_ h).2.1 d_ d_) A z (aB u u.size k) f (b.only ⟨rfl,rfl,rfl,rfl,trivial⟩) λa w' l b=>Rn.fi b ⟨rfl,l⟩)
 ·
  refine Rn.vv b (λo d=>ca (m:=2) (n:=0) d (b.G 32) rfl) λa b=> ?_;refine Rn.uc b λa b=> ?_;refine Rn.p rfl (Rn.cond _ (b.G 33) ?_);refine Rn.vv b (λo d=>ca (m:=2) (n:=1) d (b.G 32) rfl) λa b=> ?_;refine Rn.uc b λa b=> ?_;refine Rn.p rfl (Rn.cond _ (b.G 40) ?_);refine Rn.vv b (λo d=>ca (m:=2) (n:=2) d (b.G 32) rfl) λa b=> ?_;refine Rn.uc b λa b=> ?_;refine Rn.p rfl (Rn.cond _ (b.G 44) ?_)
  iterate 1 refine Rn.uc b λa b=> ?_
  refine Rn.cl b Lf.func12 (gK (fa (KS:=d8) (seed:=seed) (used:=1)) 255 3 1 2 o_) λv B g a b=> ?_;obtain⟨S,r,q,rfl,_,_,f,k⟩:=g;refine Rn.uc b λa b=> ?_;refine Rn.uc b λa b=> ?_;exact Rn.p rfl (kx (want:=8) (C 255 d_ 3 2 d_) i4 (λj s m c h=>(Ak (.inl rfl) d_ h).2.1 d_ d_) A z (aB u u.size k) f (b.only ⟨rfl,rfl,rfl,rfl,trivial⟩) λa w' l b=>Rn.fi b ⟨rfl,l⟩)
 ·
  refine Rn.vv b (λo d=>ca (m:=3) (n:=0) d (b.G 32) rfl) λa b=> ?_;refine Rn.uc b λa b=> ?_;refine Rn.p rfl (Rn.cond _ (b.G 33) ?_);refine Rn.vv b (λo d=>ca (m:=3) (n:=1) d (b.G 32) rfl) λa b=> ?_;refine Rn.uc b λa b=> ?_;refine Rn.p rfl (Rn.cond _ (b.G 40) ?_);refine Rn.vv b (λo d=>ca (m:=3) (n:=2) d (b.G 32) rfl) λa b=> ?_;refine Rn.uc b λa b=> ?_;refine Rn.p rfl (Rn.cond _ (b.G 44) ?_);refine Rn.vv b (λo d=>ca (m:=3) (n:=3) d (b.G 32) rfl) λa b=> ?_;refine Rn.uc b λa b=> ?_;refine Rn.p rfl (Rn.cond _ (b.G 48) ?_);have Q:=Bv (jN d8 seed 1) 0;have D:V.cell? ⟨gb,29,none⟩=some (.i ((rP (jN d8 seed 1) 0:Nat):Int)):=by
   have:=Y 29 (.i ((rP (jN d8 seed 1) 0:Nat):Int)) (by rw[ky];rfl)
   rwa [Nat.zero_add]at this
  have a0:29<L.size:=by rw[aK y]at D;exact(gA D).1
  iterate 2 refine Rn.uc b λa b=> ?_
  refine Rn.vv b (λo d=>qV (n:=29) d (b.G 51) rfl d_) λa b=> ?_;refine Rn.vv b (λo d=>(aP cp d (b.G 52) D).1) λa b=> ?_;refine Rn.vv b (λo d=>cS (n:=1) d (b.G 53) rfl o_) λa b=> ?_;refine Rn.vv b (λo d=>xQ (n:=65536) d (b.G 54) rfl d_) λa b=> ?_;refine Rn.vv b (λo d=>qV (n:=29) d (b.G 50) rfl d_) λa b=> ?_;refine Rn.nn b (λo d=>fD (v:= .i (((rP (jN d8 seed 1) 0+1)%65536:Nat):Int)) rfl rfl k_ d (b.G 56) (b.G 55) y a0) λa b=> ?_;have H:=Kk (i:=29) y Y (((rP (jN d8 seed 1) 0+1)%65536:Nat):Int);have P:=u.trans (cM (cs:=L.setIfInBounds 29 (.i (((rP (jN d8 seed 1) 0+1)%65536:Nat):Int))) (t:=3) (Nat.le_trans B7.size a3));rw[show(((rP (jN d8 seed 1) 0+1)%65536:Nat):Int)=(((rP (jN d8 seed 1) 0:Nat):Int)+1)%65536 from o_]at H P⊢;refine Rn.uc b λa b=> ?_;have wx:gD (Am (jN d8 seed 1)):=xw (by rw[Am,List.length_set];exact jP ..) λx Q=>by
   rcases List.mem_or_eq_of_mem_set Q with Q|rfl
   ·exact yn 3855 _ d_ ⟨(oA d_).2.2.2.1,(oA d_).2.2.2.2⟩ 1 0 _ 4 x Q
   ·omega
  exact Rn.p rfl (kx (W:=Am (jN d8 seed 1)) (want:=8) wx i4 (λj s m c h=>(IJ h (IQ _).1 (.inr (by rw[Am,ky];rfl))).2.1 (by rw[(IQ _).2];decide) (Gg _ fa)) A z P H (b.only ⟨rfl,rfl,rfl,rfl,trivial⟩) λa w' l b=>Rn.fi b ⟨rfl,l⟩)
 ·
  refine Rn.vv b (λo d=>ca (m:=4) (n:=0) d (b.G 32) rfl) λa b=> ?_;refine Rn.uc b λa b=> ?_;refine Rn.p rfl (Rn.cond _ (b.G 33) ?_);refine Rn.vv b (λo d=>ca (m:=4) (n:=1) d (b.G 32) rfl) λa b=> ?_;refine Rn.uc b λa b=> ?_;refine Rn.p rfl (Rn.cond _ (b.G 40) ?_);refine Rn.vv b (λo d=>ca (m:=4) (n:=2) d (b.G 32) rfl) λa b=> ?_;refine Rn.uc b λa b=> ?_;refine Rn.p rfl (Rn.cond _ (b.G 44) ?_);refine Rn.vv b (λo d=>ca (m:=4) (n:=3) d (b.G 32) rfl) λa b=> ?_;refine Rn.uc b λa b=> ?_;refine Rn.p rfl (Rn.cond _ (b.G 48) ?_);refine Rn.vv b (λo d=>ca (m:=4) (n:=4) d (b.G 32) rfl) λa b=> ?_;refine Rn.uc b λa b=> ?_;refine Rn.p rfl (Rn.cond _ (b.G 57) ?_)
  iterate 1 refine Rn.uc b λa b=> ?_
  refine Rn.cl b Lf.func12 (gK (fa (KS:=d8) (seed:=seed) (used:=1)) 13107 3 1 0 o_) λv B g a b=> ?_;obtain⟨S,r,q,rfl,_,_,f,k⟩:=g;refine Rn.uc b λa b=> ?_;refine Rn.uc b λa b=> ?_;exact Rn.p rfl (kx (want:=2) (C 13107 d_ 3 0 d_) i4 (λj s m c h=>ML d_ h) A z (aB u u.size k) f (b.only ⟨rfl,rfl,rfl,rfl,trivial⟩) λa w' l b=>Rn.fi b ⟨rfl,l⟩)
 ·
  refine Rn.vv b (λo d=>ca (m:=5) (n:=0) d (b.G 32) rfl) λa b=> ?_;refine Rn.uc b λa b=> ?_;refine Rn.p rfl (Rn.cond _ (b.G 33) ?_);refine Rn.vv b (λo d=>ca (m:=5) (n:=1) d (b.G 32) rfl) λa b=> ?_;refine Rn.uc b λa b=> ?_;refine Rn.p rfl (Rn.cond _ (b.G 40) ?_);refine Rn.vv b (λo d=>ca (m:=5) (n:=2) d (b.G 32) rfl) λa b=> ?_;refine Rn.uc b λa b=> ?_;refine Rn.p rfl (Rn.cond _ (b.G 44) ?_);refine Rn.vv b (λo d=>ca (m:=5) (n:=3) d (b.G 32) rfl) λa b=> ?_;refine Rn.uc b λa b=> ?_;refine Rn.p rfl (Rn.cond _ (b.G 48) ?_);refine Rn.vv b (λo d=>ca (m:=5) (n:=4) d (b.G 32) rfl) λa b=> ?_;refine Rn.uc b λa b=> ?_;refine Rn.p rfl (Rn.cond _ (b.G 57) ?_);refine Rn.vv b (λo d=>ca (m:=5) (n:=5) d (b.G 32) rfl) λa b=> ?_;refine Rn.uc b λa b=> ?_;refine Rn.p rfl (Rn.cond _ (b.G 61) ?_)
  iterate 1 refine Rn.uc b λa b=> ?_
  refine Rn.cl b Lf.func12 (gK (fa (KS:=d8) (seed:=seed) (used:=1)) 21845 3 1 0 o_) λv B g a b=> ?_;obtain⟨S,r,q,rfl,_,_,f,k⟩:=g;refine Rn.uc b λa b=> ?_;refine Rn.uc b λa b=> ?_;exact Rn.p rfl (kx (want:=2) (C 21845 d_ 3 0 d_) i4 (λj s m c h=>ML d_ h) A z (aB u u.size k) f (b.only ⟨rfl,rfl,rfl,rfl,trivial⟩) λa w' l b=>Rn.fi b ⟨rfl,l⟩)
 ·
  refine Rn.vv b (λo d=>ca (m:=6) (n:=0) d (b.G 32) rfl) λa b=> ?_;refine Rn.uc b λa b=> ?_;refine Rn.p rfl (Rn.cond _ (b.G 33) ?_);refine Rn.vv b (λo d=>ca (m:=6) (n:=1) d (b.G 32) rfl) λa b=> ?_;refine Rn.uc b λa b=> ?_;refine Rn.p rfl (Rn.cond _ (b.G 40) ?_);refine Rn.vv b (λo d=>ca (m:=6) (n:=2) d (b.G 32) rfl) λa b=> ?_;refine Rn.uc b λa b=> ?_;refine Rn.p rfl (Rn.cond _ (b.G 44) ?_);refine Rn.vv b (λo d=>ca (m:=6) (n:=3) d (b.G 32) rfl) λa b=> ?_;refine Rn.uc b λa b=> ?_;refine Rn.p rfl (Rn.cond _ (b.G 48) ?_);refine Rn.vv b (λo d=>ca (m:=6) (n:=4) d (b.G 32) rfl) λa b=> ?_;refine Rn.uc b λa b=> ?_;refine Rn.p rfl (Rn.cond _ (b.G 57) ?_);refine Rn.vv b (λo d=>ca (m:=6) (n:=5) d (b.G 32) rfl) λa b=> ?_;refine Rn.uc b λa b=> ?_;refine Rn.p rfl (Rn.cond _ (b.G 61) ?_);exact Rn.p rfl (kx (want:=0) (C 3855 d_ 3 0 d_) i4 (λj s m c h=>(Ak (.inr rfl) d_ h).2.2 d_ rfl) A z u Y (b.only ⟨rfl,rfl,rfl,rfl,trivial⟩) λa w' l b=>Rn.fi b ⟨rfl,l⟩)
end L1
namespace guarded
open Go Go.Conc Go.ChangeShapes Go.WideShapes Go.ChangeAt Go.RowKit Go.Proofs.YtkmoglhgkcnalabGreatDoor
open Go.ChangeMaps (open_string shut_string)
section
variable{H:Type}{enc:TypeId×Value->H}
theorem fI{a:Assume}{C:Checked}{x:Os}{s:ChangeSpec}{k:List PathCond}{apart fresh handsOn again:Bool}{h:List (String×DataW Unit)}
 (u:ownKnob C.prog.godebug=none) (g:x.Started) (D:C.prog.funcs[f]?=some fn)
 (d:∃(w:World) (b:Tape) (i:Input),w.os=x/\(w.forCall b i).Shaped C.prog/\i.vars=[]/\Input.okWide C.prog (w.forCall b i) .any w.heap.size f i/\
   (OpenSpec.ofChange s).preRow enc C.prog fn k apart h (w.forCall b i).memory i.args/\a.holds C.prog (lone (Frame.enter C.prog f i.args .normal) [] (w.forCall b i)))
 (l:∀(W:World) (base:Nat) (args:Array Value) (ds gs:List (DataW H)) (c:List MemPlace),
   (∀(j:Nat) t v,fn.params[j]?=some t->args[j]?=some v->Value.okWide C.prog W .any base t v)->
   DataW.Whole enc C.prog fn.params.toList s.vars apart W args.toList ds gs c->
   (DataW.weightsEach C.prog (fn.params.toList++(OpenSpec.ofChange s).bare.plain.varTypes C.prog) (ds++gs)).all (· <=reachBytes)=true->
   laidMetH C.prog h W->W.ShapedOpen C.prog->
   dK C.prog (λv P=>s.post enc C.prog fn apart fresh handsOn again W args v P) (solo (Conc.G (Frame.enter C.prog f args .normal) []) W) #[]):
 ReturnsInLeavingWide a C x f .any ((OpenSpec.ofChange s).preRow enc C.prog fn k apart h) (s.post enc C.prog fn apart fresh handsOn again):=by refine returnsInLeavingWide_of_good u g d ?_;intro w b i _ z _ B p r;obtain⟨_,_,_,E,q,_,_,_,_,n⟩:=B;have e:E=fn:=Option.some.inj (q.symm.trans D);subst e;obtain⟨⟨A,J⟩,I⟩:=p;obtain⟨ds,gs,c,F,R,Q⟩:=OpenSpec.pre_parts A;have y:=DataW.Whole.of_heap (w':=w.forCall b i) (by rfl) F;obtain⟨M,m,o,w',G,O,N,L,K⟩:=l (w.forCall b i) w.heap.size i.args ds gs c n y (I.weights F) (J.of_heap (by rfl)) z;exact⟨M,m,o,w',G,O,N,L,K.mono λv A=>ChangeSpec.post_blind A⟩
end
theorem own:ownKnob Tryz.prog.godebug=none:=k_
theorem Aj:Tryz.prog.globalNamed "lintel/digest.roots" =some 0:=k_
theorem nC:(Tryz.prog.globals[0]?).map (·.type)=some 108:=k_
theorem qx:Tryz.prog.cellsOf 108=64:=k_
theorem qy:Tryz.prog.cellsOf 64=1:=k_
theorem zf{W:World}(h:laidMetH Tryz.prog Rows.guardedRow.laid W):Lib.TabIs Tryz.prog W "lintel/digest.roots" .u32 d8:=
 Lib.tabIs_of_head (rest:=[]) Aj nC Tryz.underlying108 Tryz.underlying64 qy qx h
theorem zk:(((begin tP (λ_ _=>0) default).world.heap[0]?).bind Obj.row?).map (λp=>p.1.size)=some 64:=k_
theorem zj:((((begin tP (λ_ _=>0) default).world.heap[1]?).bind Obj.row?).isSome)=true:=k_
theorem Mo:Tryz.prog.globals.size=2:=k_
theorem qC:pE 6 (Tryz.f6.body.getD .skip)=true:=k_
theorem nM(H:Type)(enc:TypeId×Value->H)(W:World)(base:Nat)(args:Array Value)(ds gs:List (DataW H))(g:List MemPlace)
 (a:∀(j:Nat) t v,Tryz.f6.params[j]?=some t->args[j]?=some v->Value.okWide tP W .any base t v)
 (hW:DataW.Whole enc tP Tryz.f6.params.toList Rows.guardedSpec.vars false W args.toList ds gs g)
 (O:(DataW.weightsEach tP (Tryz.f6.params.toList++(OpenSpec.ofChange Rows.guardedSpec).bare.plain.varTypes tP) (ds++gs)).all (· <=reachBytes)=true)
 (hL:laidMetH tP Rows.guardedRow.laid W) (l:W.ShapedOpen tP):
 dK tP (λv W'=>Rows.guardedSpec.post enc tP Tryz.f6 false true false false W args v W') (solo (Conc.G (Frame.enter tP 6 args .normal) []) W) #[]:=by
 have N:=hW;obtain⟨p,q,u,hV,rfl,a9,a8⟩:=hW;have hA:DataW.TrodAll enc tP W 0 (λ_=>true) true Tryz.f6.params.toList args.toList ds p:=u;rw[Tryz.params6]at hA a;obtain⟨v0,a7,d0,ad,p0,q0,K,rfl,rfl,h0,r0⟩:=trodAll_cons hA;obtain⟨Z,a6,d1,ac,p1,q1,rfl,rfl,rfl,P,r1⟩:=trodAll_cons r0;obtain⟨Y,a5,d2,ab,p2,q2,rfl,rfl,rfl,B,r2⟩:=trodAll_cons r1;obtain⟨X,a4,d3,aa,p3,q3,rfl,rfl,rfl,h3,r3⟩:=trodAll_cons r2;obtain⟨rfl,rfl,rfl⟩:=trodAll_nil r3;obtain rfl:args=#[v0,Z,Y,X]:=by cases args;simp_all
 obtain⟨rfl,rfl⟩:=trodVars_none hV;obtain⟨a0,rfl,rfl,rfl,w0⟩:=open_string Tryz.underlying9 (a 0 9 v0 rfl rfl) h0;obtain⟨a1,rfl,rfl,rfl,w1⟩:=open_string Tryz.underlying9 (a 1 9 Z rfl rfl) P;obtain⟨a2,rfl,rfl,rfl,U⟩:=open_int Tryz.underlying3 (a 2 3 Y rfl rfl) B;obtain⟨a3,rfl,rfl,rfl,T⟩:=open_int Tryz.underlying3 (a 3 3 X rfl rfl) h3;have C:=zf hL;have A:W.rangeAt 0 0 (aH d8):=λj v b=>by
  have y:j<64:=by have:=(List.getElem?_eq_some_iff.1 b).1;rwa [bB,bQ]at this
  have:=C.cell Aj j (by rw[bQ];exact y);rw[Nat.zero_add,this,←b,CK d8 j (by rw[bQ];exact y)]
 simp[DataW.weightsEach,DataW.weights]at O;have hb:∀x:ByteArray,x.data.size<=reachBytes->x.size<=140737488351232:=λx h=>Nat.le_trans h d_;have hi:∀z:Int,(Lit.int .i64 z).wf=true-> -9223372036854775808<=z/\z<9223372036854775808:=λz h=>by have P:IntKind.i64.min= -9223372036854775808:=rfl;have B:IntKind.i64.max=9223372036854775807:=rfl;simp[Lit.wf,P,B]at h;omega
 clear u;obtain⟨⟨S,t0⟩,E,i⟩:=Option.map_eq_some_iff.1 zk;obtain⟨⟨z1,t1⟩,D⟩:=Option.isSome_iff_exists.1 zj;obtain⟨Q,s,F,_⟩:=l.1 0 S t0 (by rw[Mo];decide) E;obtain⟨c1,I,_,_⟩:=l.1 1 z1 t1 (by rw[Mo];decide) D;have L:2<=W.heap.size:=(gA I).1;have i:S.size=64:=i;have d:∀v∈Q,bO v=true:=by
  intro v b;obtain⟨j,y,rfl⟩:=Array.mem_iff_getElem.1 b;have n:j<d8.length:=by rw[bQ];omega
  have J:=A j _ (CK d8 j n);rw[Nat.zero_add]at J;have G:W.cell? ⟨0,j,none⟩=Q[j]?:=by simp[World.cell?,s]
  rw[G,Array.getElem?_eq_getElem y]at J;rw[Option.some.inj J];rfl
 have m:=pg (f:=6) (r:=8) (args:=#[.s a0, .s a1, .int .i64 a2, .int .i64 a3]) (v:= .bool true) (W:=W) (KS:=d8) Tryz.func6 (c:=Tryz.f6.body.getD .skip) rfl qC rfl rfl d_ d_ k_
  (λv b=>by simp only[List.mem_toArray,List.mem_cons,List.not_mem_nil,or_false]at b;rcases b with rfl|rfl|rfl|rfl<;>rfl) rfl (by simp[undef]) L A bQ ⟨Q,t0,(0,0),d,s⟩
  (λw A B=>(L1.MK a0 a1 a2 a3 (hi _ U) (hi _ T) (hb _ O.1) (hb _ O.2) w A o_).mono λe V h=>h.1)
 obtain⟨M,k,o,V,t',k1,k2,k3,k4⟩:=m;refine⟨M,k,o,V,t',k1,k2,k3,k4.mono λv b=> ?_⟩;obtain⟨rfl,R⟩:=b;exact⟨_,_,_,[],_,[],N,trodAll_mk1 (shut_bool Tryz.underlying4 _),(trodAll_cons_mk (shut_string Tryz.underlying9 w0) (trodAll_cons_mk (shut_string Tryz.underlying9 w1) (trodAll_cons_mk (shut_int Tryz.underlying3 U) (trodAll_cons_mk (shut_int Tryz.underlying3 T) trodAll_mk0)))),rfl,R.frame _,λh=>by cases h⟩
noncomputable def eE(os:Os):World:=
 {World.holding Tryz.prog os ⟨#[],#[],[]⟩with heap:=(World.holding Tryz.prog os ⟨#[],#[],[]⟩).heap.modify 0 fun
   | .cells _ t frozen=> .cells (aH d8).toArray t frozen
   |o=>o}
theorem ny(a:Os):laidMet tP Rows.guardedRow.laid ((eE a).forCall (λ_ _=>0) ⟨#[],#[.s ByteArray.empty, .s ByteArray.empty, .i 0, .i 0],[]⟩).memory:=
 laidMet_of_run' 8 k_ k_
theorem reads(b:Os){H:Type}(enc:TypeId×Value->H):∃a,DataW.whole enc tP ((eE b).forCall (λ_ _=>0) ⟨#[],#[.s ByteArray.empty, .s ByteArray.empty, .int .i64 0, .int .i64 0],[]⟩).memory Tryz.f6.params.toList Rows.guardedSpec.vars false #[Value.string ByteArray.empty, .s ByteArray.empty, .int .i64 0, .int .i64 0].toList 8=some ([.lit (.string []), .lit (.string []), .lit (.int .i64 0), .lit (.int .i64 0)],[],a):=
 ⟨[],k_⟩
theorem un(c:Os)(a:c.Started)(H:Type)(enc:TypeId×Value->H):
 ReturnsInLeavingWide {} Tryz.checked c 6 .any ((OpenSpec.ofChange Rows.guardedSpec).preRow enc tP Tryz.f6 Rows.guardedRow.domain false Rows.guardedRow.laid) (Rows.guardedSpec.post enc tP Tryz.f6 false true false false):=by
 obtain⟨g,i⟩:=reads c enc;refine fI (C:=Tryz.checked) (s:=Rows.guardedSpec) own a Tryz.func6
  (witness_row_at (enc:=enc) (C:=Tryz.checked) false (eE c) #[.s ByteArray.empty, .s ByteArray.empty, .i 0, .i 0] rfl k_ k_ k_
    (OpenSpec.preRow_of_cond 8 i k_ (λk j=>by cases j) k_ (ny c))) ?_
 intro W e f p o b d l m n h;exact nM H enc W e f p o b d l m n h
theorem Hj:Rows.GuardedSaid:=
 OpenClaim.holds_of_wide_leaving 6 Tryz.f6 rfl rfl rfl rfl rfl rfl rfl ⟨rfl,rfl,rfl,rfl,rfl⟩ rfl rfl rfl rfl rfl k_ Tryz.func6 k_
  (of_decide_eq_true k_) (by unfold Func.isWrapper;first|(rw[if_pos (by decide+kernel)];kernel_rfl)|(rw[if_neg (by decide+kernel)];exact⟨rfl,rfl⟩))
  (λc a H b _=>by rw[OpenClaim.pre_eq_preRow];exact un c a H b)
theorem plain(f:FuncId)(fn:Func)(g:Tryz.pinned.checked.prog.funcNamed "lintel/lintelkeep.Guarded" =some f)(a:Tryz.pinned.checked.prog.funcs[f]?=some fn):
 false=Tryz.pinned.checked.prog.looks []/\∀(j:Nat) t,fn.params[j]?=some t->Tryz.pinned.checked.prog.wantsStandIn t=false:=by
 obtain rfl:f=6:=Option.some.inj ((show Tryz.prog.funcNamed "lintel/lintelkeep.Guarded" =some 6 by kernel_rfl).symm.trans g)|>.symm;obtain rfl:fn=Tryz.f6:=(Option.some.inj (Tryz.func6.symm.trans a)).symm;refine⟨k_,λj t b=> ?_⟩;rw[Tryz.params6]at b;have d:=Array.mem_of_getElem? b;simp only[List.mem_toArray,List.mem_cons,List.not_mem_nil,or_false]at d;have c:Tryz.prog.wantsStandIn 9=false:=k_
 have e:Tryz.prog.wantsStandIn 3=false:=k_
 rcases d with rfl|rfl|rfl|rfl
 ·exact c
 ·exact c
 ·exact e
 ·exact e
theorem li(Lk:Looks){p:Pinned}{s:OpenSpec}{c:OpenClaim}(kinds:List LaidKind)(tests:Bool)(har:Bool×String)(lk:Bool)(hc:c.holds p s)(hw:c.wfByText s=true)(htie:c.laidByTextAt Lk p kinds tests)
 (hst:c.start= .entering) (hnb:c.noBlocks=false/\c.again=false) (hm:p.checked.prog.mainIs=some (har.1,har.2.toList)) (hn:(!har.1&&har.2.isEmpty&& !lk)=false)
 (hl:∀f fn,p.checked.prog.funcNamed c.func=some f->p.checked.prog.funcs[f]?=some fn->lk=p.checked.prog.looks []/\∀(j:Nat) t,fn.params[j]?=some t->p.checked.prog.wantsStandIn t=false)
 (hg:true=c.goesBy p.checked.prog):
 Claim7.holds p (.plain s) {stood:={row:=c,standIns:=[],harness:=har,looks:=lk},kinds:=[],alts:=[],goes:=true,laidByText:=true,laidKinds:=kinds,laidTests:=tests,laidLooks:=Lk}:=by
 have h6:Claim7.isSixth {stood:={row:=c,standIns:=[],harness:=har,looks:=lk},kinds:=[]}=false:=by simpa[Claim7.isSixth]using hn
 have hnew:=Claim7.tied_new_at Lk kinds tests (Claim7.new_of_sixth hc har lk hst hnb hm h6 hl) hw;exact⟨hnew,(λD hD=>by cases hD),htie,(λh=>by cases h),hg⟩
theorem card:Rows.GuardedCardSaid:=
 li .later _ _ _ _ Hj k_ guarded_row_tie rfl ⟨rfl,rfl⟩ k_ rfl plain k_
end guarded
theorem guarded_card_holds:Rows.GuardedCardSaid:=guarded.card
end Go.Proofs.YtkmoglhgkcnalabGreatDoor
