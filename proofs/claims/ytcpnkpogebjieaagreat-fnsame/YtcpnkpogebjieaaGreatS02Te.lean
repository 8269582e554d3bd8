/- The operations of a function's code, in two worlds at once (see Ta): the tables of types -/
import Derived.Test.YtcpnkpogebjieaaGreatS01Tb
namespace Go.Proofs.YtcpnkpogebjieaaGreat
namespace Co
open Go.Conc
abbrev PP (T:Tables)(F:Array Func):Program:={toTables:=T,funcs:=F}
structure D (T:Tables) (F F':Array Func) (LO:Loop→Prop) (X:Nat→Bool) {α:Type} (s:Sem α):Prop where
 tr:Tr (PP T F) (PP T F') LO X (fun _=>True) s s
section
variable {T:Tables} {F F':Array Func} {LO:Loop→Prop} {X:Nat→Bool} {α β:Type}
theorem Qd (a:α):D T F F' LO X (pure a):=⟨Q7 a trivial⟩
theorem Qh (h:Halt)(hh:HOk h:=by exact True.intro):D T F F' LO X (.halt h:Sem α):=⟨Z0 h _ hh⟩
theorem Qc {s:Sem α}{f:α→Sem β}(hs:D T F F' LO X s)(hf:∀a,D T F F' LO X (f a)):D T F F' LO X (s>>= f):=⟨Zs hs.tr fun a _=>(hf a).tr⟩
theorem QX (a:Addr)(m:Mode):D T F F' LO X (load a m):=⟨Qhu a m fun _=>trivial⟩
theorem QY (a:Addr)(v:Value)(m:Mode):D T F F' LO X (store a v m):=⟨Qhw a v m trivial⟩
theorem QS (q:Question):D T F F' LO X (choose q):=⟨Qbs q fun _=>trivial⟩
theorem Qp {c:Prop}[Decidable c]{x y:Sem α}(hx:D T F F' LO X x)(hy:D T F F' LO X y):D T F F' LO X (if c then x else y):=by split<;>assumption
def Jh (s:Sem α):Prop:=∀(LO:Loop→Prop) P w,WOk LO w→∃h w1,s.run P w=.halt h w1∧HOk h∧WOk LO w1
def Saf (s:Sem α):Prop:=∀(LO:Loop→Prop) P w,WOk LO w→(∀h w1,s.run P w=.halt h w1→HOk h∧WOk LO w1)∧∀a w1,s.run P w=.ok a w1→WOk LO w1
theorem JK {P P':Program}{Q:α→Prop}{s':Sem α}(h:Jh s')(s:Sem α):Tr P P' LO X Q s' s:=fun _ w' _ _ hW _=>by
 obtain⟨x,w1,h1,h2⟩:=h LO P' w' hW;rw[h1];exact⟨fun a w1' hr=>(by cases hr),fun y w1' hr=>by cases hr;exact h2⟩
theorem Zy (h:Halt)(hh:HOk h:=by exact True.intro):Jh (.halt h:Sem α):=fun _ _ w hW=>⟨h,w,rfl,hh,hW⟩
theorem Js {s:Sem α}{f:α→Sem β}(hs:Saf s)(hf:∀a,Jh (f a)):Jh (s>>= f):=by
 intro LO P w hW;rw[Sem.run_bind]
 cases h:s.run P w with
 |halt x y=>exact⟨x,y,rfl,(hs LO P w hW).1 x y h⟩
 |ok a w2=>exact hf a LO P w2 ((hs LO P w hW).2 a w2 h)
theorem Uy {s:Sem α}{f:α→Sem β}(h:Jh s):Jh (s>>= f):=by
 intro LO P w hW;obtain⟨x,w1,h1,h2⟩:=h LO P w hW;exact⟨x,w1,by rw[Sem.run_bind,h1];rfl,h2⟩
theorem VJ {c:Prop}[Decidable c]{x y:Sem α}(hx:Jh x)(hy:Jh y):Jh (if c then x else y):=by split<;>assumption
theorem JJ (a:α):Saf (pure a:Sem α):=fun _ _ _ hW=>⟨fun _ _ h=>(by cases h),fun _ _ h=>by cases h;exact hW⟩
theorem VX (h:Halt)(hh:HOk h:=by exact True.intro):Saf (.halt h:Sem α):=fun _ _ _ hW=>⟨fun _ _ e=>(by cases e;exact⟨hh,hW⟩),fun _ _ h=>by cases h⟩
theorem JI {s:Sem α}{f:α→Sem β}(hs:Saf s)(hf:∀a,Saf (f a)):Saf (s>>= f):=by
 intro LO P w hW;rw[Sem.run_bind];obtain⟨h1,h2⟩:=hs LO P w hW
 cases h0:s.run P w with
 |halt x y=>exact⟨fun h w1 hr=>(by cases hr;exact h1 _ _ h0),fun a w1 hr=>by cases hr⟩
 |ok a w2=>exact hf a LO P w2 (h2 a w2 h0)
theorem Qgp {c:Prop}[Decidable c]{x y:Sem α}(hx:Saf x)(hy:Saf y):Saf (if c then x else y):=by split<;>assumption
theorem QaU (q:Question):Saf (choose q):=by
 intro LO P w hW;simp only[choose,Sem.run];split
 ·exact⟨fun _ _ h=>(by cases h),fun _ _ h=>by cases h;exact hW⟩
 ·exact⟨fun _ _ h=>(by cases h),fun _ _ h=>by cases h;exact hW⟩
theorem VY:Saf program:=fun _ _ _ hW=>⟨fun _ _ h=>(by cases h),fun _ _ h=>by cases h;exact hW⟩
theorem Qgr (e:TypeId)(c:Array Value):Saf (newObj (.cells c e)):=fun _ _ _ hW=>⟨fun _ _ h=>(by cases h),fun _ _ h=>by cases h;exact hW.push trivial⟩
theorem Qgs (r:Nat):Saf (shape r):=fun _ _ _ hW=>⟨fun _ _ h=>(by cases h),fun _ _ h=>by cases h;exact hW⟩
theorem Qgo (a:Addr):Saf (frozen a):=fun _ _ _ hW=>⟨fun _ _ h=>(by cases h),fun _ _ h=>by cases h;exact hW⟩
theorem QaX (m:Mark):Saf (mark m):=fun _ _ _ hW=>⟨fun _ _ h=>(by cases h),fun _ _ h=>by cases h;exact hW⟩
theorem Qcf {γ:Type}(a:Ask γ)(w:World):(w.ask a).2.heap=w.heap:=by
 induction a generalizing w with
 |done a=>rfl
 |ask what range k ih=>
  simp only[World.ask];split
  ·exact ih 0 w
  ·exact ih _ {w with drawn:=w.drawn+1}
theorem QgZ (c:Sys)(w:World):(w.sys c).2.heap=w.heap:=by
 have h:=Qcf (Kernel.perform c w.os) w;unfold World.sys;generalize w.ask (Kernel.perform c w.os)=x at h;obtain⟨⟨r,os⟩,w1⟩:=x
 cases r<;>first|rfl|exact h
theorem Qgt (c:Sys):Saf (sys c):=fun LO P w hW=>⟨fun _ _ h=>(by cases h),fun a w1 h=>by
 have e:w1=(w.sys c).2:=by
  simp only[sys,Sem.run,Result.ok.injEq]at h;exact h.2.symm
 subst e;intro r o ho;rw[QgZ]at ho
 exact hW r o ho⟩
theorem Qgu (t:TypeId):Saf (typeInfo t):=by
 unfold typeInfo;refine JI VY fun p=>?_;split
 ·exact JJ _
 ·exact VX _
theorem QaZ (t:TypeId):Saf (underlying t):=by
 unfold underlying;refine JI VY fun p=>?_;split
 ·exact JJ _
 ·exact VX _
theorem QaV (t:TypeId):Saf (elemOf t):=by
 unfold elemOf;refine JI (QaZ _) fun p=>?_;split
 ·exact JJ _
 ·exact VX _
theorem QaY (t:TypeId)(v:Value):Saf (newVar t v):=JI (Qgr _ _) fun _=>JJ _
theorem J0 (e:RuntimeError):Jh (runtimePanic e:Sem α):=by
 unfold runtimePanic;refine Js VY fun p=>?_
 cases e<;>simp only
 case typeAssertion=>exact Js (QaV _) fun _=>Js (QaY _ _) fun _=>Zy _
 case panicNil=>exact Js (QaV _) fun _=>Js (QaY _ _) fun _=>Zy _
 all_goals exact Zy _
theorem QG (e:RuntimeError):D T F F' LO X (runtimePanic e:Sem α):=⟨JK (J0 e) _⟩
theorem Q5 (k:IntKind)(x y:Int)(c:BoundsCode):D T F F' LO X (boundsPanic k x y c:Sem α):=⟨JK (by
 unfold boundsPanic;dsimp only;split
 ·exact Js (JI (QaU _) fun _=>JJ _) fun _=>J0 _
 ·exact Js (JJ _) fun _=>J0 _) _⟩
theorem Um {f:Program→Sem β}(h:Tr (PP T F) (PP T F') LO X (fun _=>True) (f (PP T F')) (f (PP T F))):D T F F' LO X (program>>= f):=⟨YP h⟩
theorem Qg3 (t:TypeId):Tr (PP T F) (PP T F') LO X (fun i=>T.info? t=some i) (typeInfo t) (typeInfo t):=by
 refine YP ?_;show Tr _ _ _ _ _ (match T.info? t with|some i=>pure i|none=>stuck "no such type") (match T.info? t with|some i=>pure i|none=>stuck "no such type")
 cases h:T.info? t with
 |none=>exact Z0 _ _
 |some i=>exact Q7 i rfl
theorem QH (t:TypeId):D T F F' LO X (typeInfo t):=⟨Qbt (Qg3 t) fun _ _=>trivial⟩
theorem Y6 (t:TypeId):Tr (PP T F) (PP T F') LO X (fun i=>(PP T F).underlying t=some i) (underlying t) (underlying t):=by
 refine YP ?_;have e:(PP T F').underlying t=(PP T F).underlying t:=rfl;rw[e]
 cases h:(PP T F).underlying t with
 |none=>exact Z0 _ _
 |some i=>exact Q7 i rfl
theorem Qy (t:TypeId):D T F F' LO X (underlying t):=⟨Qbt (Y6 t) fun _ _=>trivial⟩
theorem QT (t:TypeId):D T F F' LO X (zeroValue t):=by
 unfold zeroValue
 repeat' first
  |exact Qd _
  |exact Qh _
  |exact Qy _
  |exact QH _
  |exact QX _ _
  |exact QY _ _ _
  |exact QG _
  |exact Q5 _ _ _ _
  |exact QS _
  |apply Qc
  |intro _
  |apply Qp
  |split
  |dsimp only
theorem QV (t:TypeId):D T F F' LO X (sizeOf t):=by
 unfold sizeOf
 repeat' first
  |exact Qd _
  |exact Qh _
  |exact Qy _
  |exact QH _
  |exact QT _
  |exact QX _ _
  |exact QY _ _ _
  |exact QG _
  |exact Q5 _ _ _ _
  |exact QS _
  |apply Qc
  |intro _
  |apply Qp
  |split
  |dsimp only
theorem Zc (t:TypeId):D T F F' LO X (isAgg t):=by
 unfold isAgg
 repeat' first
  |exact Qd _
  |exact Qh _
  |exact Qy _
  |exact QH _
  |exact QT _
  |exact QV _
  |exact QX _ _
  |exact QY _ _ _
  |exact QG _
  |exact Q5 _ _ _ _
  |exact QS _
  |apply Qc
  |intro _
  |apply Qp
  |split
  |dsimp only
theorem Zh (v:Value):D T F F' LO X (asIntOf v):=by
 unfold asIntOf
 repeat' first
  |exact Qd _
  |exact Qh _
  |exact Qy _
  |exact QH _
  |exact QT _
  |exact QV _
  |exact Zc _
  |exact QX _ _
  |exact QY _ _ _
  |exact QG _
  |exact Q5 _ _ _ _
  |exact QS _
  |apply Qc
  |intro _
  |apply Qp
  |split
  |dsimp only
theorem Zb (v:Value):D T F F' LO X (asInt v):=by
 unfold asInt
 repeat' first
  |exact Qd _
  |exact Qh _
  |exact Qy _
  |exact QH _
  |exact QT _
  |exact QV _
  |exact Zc _
  |exact QX _ _
  |exact QY _ _ _
  |exact Zh _
  |exact QG _
  |exact Q5 _ _ _ _
  |exact QS _
  |apply Qc
  |intro _
  |apply Qp
  |split
  |dsimp only
theorem Zk (v:Value):D T F F' LO X (asBool v):=by
 unfold asBool
 repeat' first
  |exact Qd _
  |exact Qh _
  |exact Qy _
  |exact QH _
  |exact QT _
  |exact QV _
  |exact Zc _
  |exact QX _ _
  |exact QY _ _ _
  |exact Zb _
  |exact Zh _
  |exact QG _
  |exact Q5 _ _ _ _
  |exact QS _
  |apply Qc
  |intro _
  |apply Qp
  |split
  |dsimp only
theorem Zo (v:Value):D T F F' LO X (asAgg v):=by
 unfold asAgg
 repeat' first
  |exact Qd _
  |exact Qh _
  |exact Qy _
  |exact QH _
  |exact QT _
  |exact QV _
  |exact Zc _
  |exact QX _ _
  |exact QY _ _ _
  |exact Zb _
  |exact Zh _
  |exact Zk _
  |exact QG _
  |exact Q5 _ _ _ _
  |exact QS _
  |apply Qc
  |intro _
  |apply Qp
  |split
  |dsimp only
theorem Zg (v:Value):D T F F' LO X (asAddr v):=by
 unfold asAddr
 repeat' first
  |exact Qd _
  |exact Qh _
  |exact Qy _
  |exact QH _
  |exact QT _
  |exact QV _
  |exact Zc _
  |exact QX _ _
  |exact QY _ _ _
  |exact Zb _
  |exact Zh _
  |exact Zk _
  |exact Zo _
  |exact QG _
  |exact Q5 _ _ _ _
  |exact QS _
  |apply Qc
  |intro _
  |apply Qp
  |split
  |dsimp only
theorem ZA (v:Value):D T F F' LO X (Instr.sureAddr v):=by
 unfold Instr.sureAddr
 repeat' first
  |exact Qd _
  |exact Qh _
  |exact Qy _
  |exact QH _
  |exact QT _
  |exact QV _
  |exact Zc _
  |exact QX _ _
  |exact QY _ _ _
  |exact Zb _
  |exact Zh _
  |exact Zk _
  |exact Zg _
  |exact Zo _
  |exact QG _
  |exact Q5 _ _ _ _
  |exact QS _
  |apply Qc
  |intro _
  |apply Qp
  |split
  |dsimp only
theorem Qdj (a:Addr)(n:Nat):∀(i:Nat) (acc:Array Value),D T F F' LO X (loadCellsFrom a i n acc):=by
 induction n with
 |zero=>intro i acc;exact Qd _
 |succ n ih=>intro i acc;exact Qc (QX _ _) fun v=>ih _ _
theorem Zt (a:Addr)(n:Nat):D T F F' LO X (loadCells a n):=Qdj a n 0 #[]
theorem Zq (a:Addr)(vs:List Value):∀i:Nat,D T F F' LO X (storeCells a vs i):=by
 induction vs with
 |nil=>intro i;unfold storeCells;exact Qd _
 |cons v vs ih=>intro i;unfold storeCells;exact Qc (QY _ _ _) fun _=>ih _
theorem Zp (e:TypeId)(c:Array Value):D T F F' LO X (newRow e c):=Qc ⟨UC (LO:=LO) trivial fun _ _=>trivial⟩ fun _=>Qd _
theorem Zz (t:TypeId)(v:Value):D T F F' LO X (newVar t v):=Zp t v.cells
theorem Zv (n:Nat):D T F F' LO X (askRoom n):=by
 unfold askRoom;split
 ·exact⟨Qhv trivial⟩
 ·exact Qd _
theorem Zm (t:TypeId)(a:Addr):D T F F' LO X (loadVar t a):=by
 unfold loadVar
 repeat' first
  |exact Qd _
  |exact Qh _
  |exact Qy _
  |exact QH _
  |exact QT _
  |exact QV _
  |exact Zc _
  |exact QX _ _
  |exact QY _ _ _
  |exact Zb _
  |exact Zh _
  |exact Zk _
  |exact Zg _
  |exact Zo _
  |exact Zt _ _
  |exact Zq _ _ _
  |exact Zp _ _
  |exact Zz _ _
  |exact QG _
  |exact Q5 _ _ _ _
  |exact QS _
  |exact Zv _
  |exact ZA _
  |apply Qc
  |intro _
  |apply Qp
  |split
  |dsimp only
theorem ZH (t:TypeId)(a:Addr)(v:Value):D T F F' LO X (storeVar t a v):=by
 unfold storeVar
 repeat' first
  |exact Qd _
  |exact Qh _
  |exact Qy _
  |exact QH _
  |exact QT _
  |exact QV _
  |exact Zc _
  |exact QX _ _
  |exact QY _ _ _
  |exact Zb _
  |exact Zh _
  |exact Zk _
  |exact Zg _
  |exact Zo _
  |exact Zt _ _
  |exact Zq _ _ _
  |exact Zm _ _
  |exact Zp _ _
  |exact Zz _ _
  |exact QG _
  |exact Q5 _ _ _ _
  |exact QS _
  |exact Zv _
  |exact ZA _
  |apply Qc
  |intro _
  |apply Qp
  |split
  |dsimp only
theorem Zu (t:TypeId)(cs:Array Value)(o:Nat):D T F F' LO X (part t cs o):=by
 unfold part
 repeat' first
  |exact Qd _
  |exact Qh _
  |exact Qy _
  |exact QH _
  |exact QT _
  |exact QV _
  |exact Zc _
  |exact QX _ _
  |exact QY _ _ _
  |exact Zb _
  |exact Zh _
  |exact Zk _
  |exact Zg _
  |exact Zo _
  |exact Zt _ _
  |exact Zq _ _ _
  |exact Zm _ _
  |exact ZH _ _ _
  |exact Zp _ _
  |exact Zz _ _
  |exact QG _
  |exact Q5 _ _ _ _
  |exact QS _
  |exact Zv _
  |exact ZA _
  |apply Qc
  |intro _
  |apply Qp
  |split
  |dsimp only
theorem UN (r:Nat){f:Option (TypeId×Nat)→Sem β}(hf:∀o,D T F F' LO X (f o))(hx:∀e n,Tr (PP T F) (PP T F') LO X (fun _=>True) (f (some (e,0))) (f (some (e,n)))):D T F F' LO X (shape r>>= f):=⟨Qbu r (fun o=>(hf o).tr) hx⟩
theorem Vp (r:Nat){f:Obj→Sem β}(hf:∀o,X r=false→Yx LO o→D T F F' LO X (f o))(hv:∀a t,Jh (f (.view a t)))(hd:Jh (f (.deferred none))):D T F F' LO X (getObj r>>= f):=
 ⟨PH r (fun o h1 h2=>(hf o h1 h2).tr) (fun a t s=>JK (hv a t) s) (fun s=>JK hd s)⟩
end
section
variable {T:Tables} {F F':Array Func} {LO:Loop→Prop} {X:Nat→Bool} {α β:Type}
theorem Vo {γ:Type}{s:Sem α}{g:α→Sem β}{f:β→Sem γ}(h:D T F F' LO X (s>>= fun a=>g a>>= f)):D T F F' LO X ((s>>= g)>>= f):=by rw[Qa3];exact h
theorem ZD (r:Nat):D T F F' LO X (numberAt r):=by
 unfold numberAt;refine UN r (fun o=>?_) (fun e n=>Q7 _ trivial)
 cases o with
 |some x=>exact Qd _
 |none=>
  refine⟨U7 r (fun o _ _=>?_) (fun _ o' o hp=>?_)⟩
  ·split<;>exact Q7 _ trivial
  ·rcases hp with⟨a,a',t,rfl,rfl⟩|⟨l,rfl,rfl⟩|⟨c,rfl,rfl⟩|⟨c,e,rfl,rfl⟩<;>exact Q7 _ trivial
theorem ZG (a:Addr):D T F F' LO X (noView a):=by
 unfold noView viewAt;refine Vo (UN a.block (fun o=>?_) (fun e n=>Q7 _ trivial))
 cases o with
 |some x=>exact Qd _
 |none=>
  have h:D T F F' LO X ((getObj a.block>>= fun o=>match o with| .view a t=>pure (some (a,t))|_=>pure none)>>= fun(x:Option (Addr×TypeId))=>if x.isSome=true then unsupported (.unsafePointer "memory seen as another type")else pure PUnit.unit):=by
   refine Vo ⟨U7 a.block (fun o _ _=>?_) (fun _ o' o hp=>?_)⟩
   ·split
    ·exact Z0 _ _
    ·exact Q7 _ trivial
   ·rcases hp with⟨a,a',t,rfl,rfl⟩|⟨l,rfl,rfl⟩|⟨c,rfl,rfl⟩|⟨c,e,rfl,rfl⟩
    ·exact Z0 _ _
    ·exact Q7 _ trivial
    ·exact Q7 _ trivial
    ·exact Q7 _ trivial
  exact h
theorem Kt (T:Tables)(F F':Array Func)(d:Nat):∀(e:TypeId) (k:Nat),byteOfCell (PP T F') d e k=byteOfCell (PP T F) d e k:=by
 induction d with
 |zero=>intro e k;rfl
 |succ d ih=>intro e k;simp only[byteOfCell,ih];rfl
theorem QcA (T:Tables)(F F':Array Func)(d:Nat):∀(e:TypeId) (k:Nat),cellOfByte (PP T F') d e k=cellOfByte (PP T F) d e k:=by
 induction d with
 |zero=>intro e k;rfl
 |succ d ih=>intro e k;simp only[cellOfByte,ih];rfl
theorem Qcy (T:Tables)(F F':Array Func)(d:Nat)(e:TypeId)(c k:Nat)(b:Int):cellAtBytes (PP T F') d e c k b=cellAtBytes (PP T F) d e c k b:=by
 unfold cellAtBytes;simp only[Kt T F F',QcA T F F'];rfl
theorem Zi (a:Addr):D T F F' LO X (byteOf a):=by
 unfold byteOf;split
 ·exact Qd _
 ·refine Um ?_;refine Zs (ZG a).tr fun _ _=>Qbu _ (fun o=>?_) (fun e n=>?_)
  ·cases o with
   |none=>exact Z0 _ _
   |some x=>
    obtain⟨e,n⟩:=x;have e1:(PP T F').cellsOf e=(PP T F).cellsOf e:=rfl;have e2:(PP T F').depth=(PP T F).depth:=rfl;have e3:(PP T F').bytesOf e=(PP T F).bytesOf e:=rfl;dsimp only;rw[e1,e2,e3,Kt T F F'];split
    ·exact Q7 _ trivial
    ·split
     ·exact Q7 _ trivial
     ·exact Z0 _ _
  ·have e1:(PP T F').cellsOf e=(PP T F).cellsOf e:=rfl;have e2:(PP T F').depth=(PP T F).depth:=rfl;have e3:(PP T F').bytesOf e=(PP T F).bytesOf e:=rfl;dsimp only;rw[e1,e2,e3,Kt T F F'];split
   ·exact Q7 _ trivial
   ·split
    ·exact Q7 _ trivial
    ·exact Z0 _ _
theorem Qdr (a:Addr)(c b:Nat):D T F F' LO X (partAt a c b):=by
 unfold partAt
 repeat' first
  |exact Qd _
  |exact Qh _
  |exact Qy _
  |exact QH _
  |exact QT _
  |exact QV _
  |exact Zc _
  |exact QX _ _
  |exact QY _ _ _
  |exact Zb _
  |exact Zh _
  |exact Zk _
  |exact Zg _
  |exact Zo _
  |exact Zt _ _
  |exact Zq _ _ _
  |exact Zm _ _
  |exact ZH _ _ _
  |exact Zp _ _
  |exact Zz _ _
  |exact Zu _ _ _
  |exact QG _
  |exact Q5 _ _ _ _
  |exact QS _
  |exact Zv _
  |exact ZD _
  |exact ZG _
  |exact Zi _
  |exact ZA _
  |apply Qc
  |intro _
  |apply Qp
  |split
  |dsimp only
theorem ZF (a:Addr)(f:Field):D T F F' LO X (fieldPlace a f):=by
 unfold fieldPlace;refine Qc (QV _) fun _=>?_;split
 ·exact Qdr _ _ _
 ·exact Qd _
theorem Qc9 (s:TypeId)(v:Value)(f:Nat):D T F F' LO X (Instr.fieldAt s v f):=by
 unfold Instr.fieldAt
 repeat' first
  |exact Qd _
  |exact Qh _
  |exact Qy _
  |exact QH _
  |exact QT _
  |exact QV _
  |exact Zc _
  |exact QX _ _
  |exact QY _ _ _
  |exact Zb _
  |exact Zh _
  |exact Zk _
  |exact Zg _
  |exact Zo _
  |exact Zt _ _
  |exact Zq _ _ _
  |exact Zm _ _
  |exact ZH _ _ _
  |exact Zp _ _
  |exact Zz _ _
  |exact Zu _ _ _
  |exact QG _
  |exact Q5 _ _ _ _
  |exact QS _
  |exact Zv _
  |exact ZD _
  |exact ZG _
  |exact Zi _
  |exact ZA _
  |exact ZF _ _
  |apply Qc
  |intro _
  |apply Qp
  |split
  |dsimp only
theorem Qdi (t:TypeId)(v:Value):D T F F' LO X (Instr.loadAt t v):=by
 unfold Instr.loadAt
 repeat' first
  |exact Qd _
  |exact Qh _
  |exact Qy _
  |exact QH _
  |exact QT _
  |exact QV _
  |exact Zc _
  |exact QX _ _
  |exact QY _ _ _
  |exact Zb _
  |exact Zh _
  |exact Zk _
  |exact Zg _
  |exact Zo _
  |exact Zt _ _
  |exact Zq _ _ _
  |exact Zm _ _
  |exact ZH _ _ _
  |exact Zp _ _
  |exact Zz _ _
  |exact Zu _ _ _
  |exact QG _
  |exact Q5 _ _ _ _
  |exact QS _
  |exact Zv _
  |exact ZD _
  |exact ZG _
  |exact Zi _
  |exact ZA _
  |exact ZF _ _
  |apply Qc
  |intro _
  |apply Qp
  |split
  |dsimp only
theorem Qdx (t:TypeId)(v x:Value):D T F F' LO X (Instr.storeAt t v x):=by
 unfold Instr.storeAt
 repeat' first
  |exact Qd _
  |exact Qh _
  |exact Qy _
  |exact QH _
  |exact QT _
  |exact QV _
  |exact Zc _
  |exact QX _ _
  |exact QY _ _ _
  |exact Zb _
  |exact Zh _
  |exact Zk _
  |exact Zg _
  |exact Zo _
  |exact Zt _ _
  |exact Zq _ _ _
  |exact Zm _ _
  |exact ZH _ _ _
  |exact Zp _ _
  |exact Zz _ _
  |exact Zu _ _ _
  |exact QG _
  |exact Q5 _ _ _ _
  |exact QS _
  |exact Zv _
  |exact ZD _
  |exact ZG _
  |exact Zi _
  |exact ZA _
  |exact ZF _ _
  |apply Qc
  |intro _
  |apply Qp
  |split
  |dsimp only
theorem Qde (t:TypeId)(x i:Value):D T F F' LO X (Instr.indexAt t x i):=by
 unfold Instr.indexAt
 repeat' first
  |exact Qd _
  |exact Qh _
  |exact Qy _
  |exact QH _
  |exact QT _
  |exact QV _
  |exact Zc _
  |exact QX _ _
  |exact QY _ _ _
  |exact Zb _
  |exact Zh _
  |exact Zk _
  |exact Zg _
  |exact Zo _
  |exact Zt _ _
  |exact Zq _ _ _
  |exact Zm _ _
  |exact ZH _ _ _
  |exact Zp _ _
  |exact Zz _ _
  |exact Zu _ _ _
  |exact QG _
  |exact Q5 _ _ _ _
  |exact QS _
  |exact Zv _
  |exact ZD _
  |exact ZG _
  |exact Zi _
  |exact ZA _
  |exact ZF _ _
  |apply Qc
  |intro _
  |apply Qp
  |split
  |dsimp only
theorem Ji (x:Value)(y:Nat)(c:BoundsCode):D T F F' LO X (Instr.sliceBound x y c):=by
 unfold Instr.sliceBound
 repeat' first
  |exact Qd _
  |exact Qh _
  |exact Qy _
  |exact QH _
  |exact QT _
  |exact QV _
  |exact Zc _
  |exact QX _ _
  |exact QY _ _ _
  |exact Zb _
  |exact Zh _
  |exact Zk _
  |exact Zg _
  |exact Zo _
  |exact Zt _ _
  |exact Zq _ _ _
  |exact Zm _ _
  |exact ZH _ _ _
  |exact Zp _ _
  |exact Zz _ _
  |exact Zu _ _ _
  |exact QG _
  |exact Q5 _ _ _ _
  |exact QS _
  |exact Zv _
  |exact ZD _
  |exact ZG _
  |exact Zi _
  |exact ZA _
  |exact ZF _ _
  |apply Qc
  |intro _
  |apply Qp
  |split
  |dsimp only
theorem Jq (b:Bool)(l c:Nat)(x y z:Option Value):D T F F' LO X (Instr.sliceBounds b l c x y z):=by
 unfold Instr.sliceBounds
 repeat' first
  |exact Qd _
  |exact Qh _
  |exact Qy _
  |exact QH _
  |exact QT _
  |exact QV _
  |exact Zc _
  |exact QX _ _
  |exact QY _ _ _
  |exact Zb _
  |exact Zh _
  |exact Zk _
  |exact Zg _
  |exact Zo _
  |exact Zt _ _
  |exact Zq _ _ _
  |exact Zm _ _
  |exact ZH _ _ _
  |exact Zp _ _
  |exact Zz _ _
  |exact Zu _ _ _
  |exact QG _
  |exact Q5 _ _ _ _
  |exact QS _
  |exact Zv _
  |exact ZD _
  |exact ZG _
  |exact Zi _
  |exact ZA _
  |exact ZF _ _
  |exact Ji _ _ _
  |apply Qc
  |intro _
  |apply Qp
  |split
  |dsimp only
theorem Qdv (t:TypeId)(v:Value)(x y z:Option Value):D T F F' LO X (Instr.slice t v x y z):=by
 unfold Instr.slice
 repeat' first
  |exact Qd _
  |exact Qh _
  |exact Qy _
  |exact QH _
  |exact QT _
  |exact QV _
  |exact Zc _
  |exact QX _ _
  |exact QY _ _ _
  |exact Zb _
  |exact Zh _
  |exact Zk _
  |exact Zg _
  |exact Zo _
  |exact Zt _ _
  |exact Zq _ _ _
  |exact Zm _ _
  |exact ZH _ _ _
  |exact Zp _ _
  |exact Zz _ _
  |exact Zu _ _ _
  |exact QG _
  |exact Q5 _ _ _ _
  |exact QS _
  |exact Zv _
  |exact ZD _
  |exact ZG _
  |exact Zi _
  |exact ZA _
  |exact ZF _ _
  |exact Ji _ _ _
  |exact Jq _ _ _ _ _ _
  |apply Qc
  |intro _
  |apply Qp
  |split
  |dsimp only
theorem Qdw (t:TypeId)(v:Value)(x y z:Option Value):D T F F' LO X (Instr.sliceAt t v x y z):=by
 unfold Instr.sliceAt;refine Qc (Qy _) fun _=>?_;split
 ·repeat' first
   |exact Qd _
   |exact Qh _
   |exact Qy _
   |exact QH _
   |exact QT _
   |exact QV _
   |exact Zc _
   |exact QX _ _
   |exact QY _ _ _
   |exact Zb _
   |exact Zh _
   |exact Zk _
   |exact Zg _
   |exact Zo _
   |exact Zt _ _
   |exact Zq _ _ _
   |exact Zm _ _
   |exact ZH _ _ _
   |exact Zp _ _
   |exact Zz _ _
   |exact Zu _ _ _
   |exact QG _
   |exact Q5 _ _ _ _
   |exact QS _
   |exact Zv _
   |exact ZD _
   |exact ZG _
   |exact Zi _
   |exact ZA _
   |exact ZF _ _
   |exact Ji _ _ _
   |exact Jq _ _ _ _ _ _
   |apply Qc
   |intro _
   |apply Qp
   |split
   |dsimp only
 ·exact Qdv _ _ _ _ _
theorem QcR (e:TypeId)(h:Bool)(v:Value):D T F F' LO X (Instr.alloc e h v):=by
 unfold Instr.alloc
 repeat' first
  |exact Qd _
  |exact Qh _
  |exact Qy _
  |exact QH _
  |exact QT _
  |exact QV _
  |exact Zc _
  |exact QX _ _
  |exact QY _ _ _
  |exact Zb _
  |exact Zh _
  |exact Zk _
  |exact Zg _
  |exact Zo _
  |exact Zt _ _
  |exact Zq _ _ _
  |exact Zm _ _
  |exact ZH _ _ _
  |exact Zp _ _
  |exact Zz _ _
  |exact Zu _ _ _
  |exact QG _
  |exact Q5 _ _ _ _
  |exact QS _
  |exact Zv _
  |exact ZD _
  |exact ZG _
  |exact Zi _
  |exact ZA _
  |exact ZF _ _
  |exact Ji _ _ _
  |exact Jq _ _ _ _ _ _
  |apply Qc
  |intro _
  |apply Qp
  |split
  |dsimp only
theorem QcV (e:TypeId)(v:Value):D T F F' LO X (Instr.box e v):=by
 unfold Instr.box
 repeat' first
  |exact Qd _
  |exact Qh _
  |exact Qy _
  |exact QH _
  |exact QT _
  |exact QV _
  |exact Zc _
  |exact QX _ _
  |exact QY _ _ _
  |exact Zb _
  |exact Zh _
  |exact Zk _
  |exact Zg _
  |exact Zo _
  |exact Zt _ _
  |exact Zq _ _ _
  |exact Zm _ _
  |exact ZH _ _ _
  |exact Zp _ _
  |exact Zz _ _
  |exact Zu _ _ _
  |exact QG _
  |exact Q5 _ _ _ _
  |exact QS _
  |exact Zv _
  |exact ZD _
  |exact ZG _
  |exact Zi _
  |exact ZA _
  |exact ZF _ _
  |exact Ji _ _ _
  |exact Jq _ _ _ _ _ _
  |apply Qc
  |intro _
  |apply Qp
  |split
  |dsimp only
theorem Qdk (t:TypeId)(v:Value):D T F F' LO X (Instr.makeInterface t v):=by
 unfold Instr.makeInterface
 repeat' first
  |exact Qd _
  |exact Qh _
  |exact Qy _
  |exact QH _
  |exact QT _
  |exact QV _
  |exact Zc _
  |exact QX _ _
  |exact QY _ _ _
  |exact Zb _
  |exact Zh _
  |exact Zk _
  |exact Zg _
  |exact Zo _
  |exact Zt _ _
  |exact Zq _ _ _
  |exact Zm _ _
  |exact ZH _ _ _
  |exact Zp _ _
  |exact Zz _ _
  |exact Zu _ _ _
  |exact QG _
  |exact Q5 _ _ _ _
  |exact QS _
  |exact Zv _
  |exact ZD _
  |exact ZG _
  |exact Zi _
  |exact ZA _
  |exact ZF _ _
  |exact Ji _ _ _
  |exact Jq _ _ _ _ _ _
  |apply Qc
  |intro _
  |apply Qp
  |split
  |dsimp only
theorem Qdl (t:TypeId)(l c:Value):D T F F' LO X (Instr.makeSlice t l c):=by
 unfold Instr.makeSlice
 repeat' first
  |exact Qd _
  |exact Qh _
  |exact Qy _
  |exact QH _
  |exact QT _
  |exact QV _
  |exact Zc _
  |exact QX _ _
  |exact QY _ _ _
  |exact Zb _
  |exact Zh _
  |exact Zk _
  |exact Zg _
  |exact Zo _
  |exact Zt _ _
  |exact Zq _ _ _
  |exact Zm _ _
  |exact ZH _ _ _
  |exact Zp _ _
  |exact Zz _ _
  |exact Zu _ _ _
  |exact QG _
  |exact Q5 _ _ _ _
  |exact QS _
  |exact Zv _
  |exact ZD _
  |exact ZG _
  |exact Zi _
  |exact ZA _
  |exact ZF _ _
  |exact Ji _ _ _
  |exact Jq _ _ _ _ _ _
  |apply Qc
  |intro _
  |apply Qp
  |split
  |dsimp only
theorem Qc8 (t:TypeId)(v:Value)(f:Nat):D T F F' LO X (Instr.field t v f):=by
 unfold Instr.field
 repeat' first
  |exact Qd _
  |exact Qh _
  |exact Qy _
  |exact QH _
  |exact QT _
  |exact QV _
  |exact Zc _
  |exact QX _ _
  |exact QY _ _ _
  |exact Zb _
  |exact Zh _
  |exact Zk _
  |exact Zg _
  |exact Zo _
  |exact Zt _ _
  |exact Zq _ _ _
  |exact Zm _ _
  |exact ZH _ _ _
  |exact Zp _ _
  |exact Zz _ _
  |exact Zu _ _ _
  |exact QG _
  |exact Q5 _ _ _ _
  |exact QS _
  |exact Zv _
  |exact ZD _
  |exact ZG _
  |exact Zi _
  |exact ZA _
  |exact ZF _ _
  |exact Ji _ _ _
  |exact Jq _ _ _ _ _ _
  |apply Qc
  |intro _
  |apply Qp
  |split
  |dsimp only
theorem Qdd (t:TypeId)(v i:Value):D T F F' LO X (Instr.index t v i):=by
 unfold Instr.index
 repeat' first
  |exact Qd _
  |exact Qh _
  |exact Qy _
  |exact QH _
  |exact QT _
  |exact QV _
  |exact Zc _
  |exact QX _ _
  |exact QY _ _ _
  |exact Zb _
  |exact Zh _
  |exact Zk _
  |exact Zg _
  |exact Zo _
  |exact Zt _ _
  |exact Zq _ _ _
  |exact Zm _ _
  |exact ZH _ _ _
  |exact Zp _ _
  |exact Zz _ _
  |exact Zu _ _ _
  |exact QG _
  |exact Q5 _ _ _ _
  |exact QS _
  |exact Zv _
  |exact ZD _
  |exact ZG _
  |exact Zi _
  |exact ZA _
  |exact ZF _ _
  |exact Ji _ _ _
  |exact Jq _ _ _ _ _ _
  |apply Qc
  |intro _
  |apply Qp
  |split
  |dsimp only
theorem Qc7 (v:Value)(i:Nat):D T F F' LO X (Instr.extract v i):=by
 unfold Instr.extract
 repeat' first
  |exact Qd _
  |exact Qh _
  |exact Qy _
  |exact QH _
  |exact QT _
  |exact QV _
  |exact Zc _
  |exact QX _ _
  |exact QY _ _ _
  |exact Zb _
  |exact Zh _
  |exact Zk _
  |exact Zg _
  |exact Zo _
  |exact Zt _ _
  |exact Zq _ _ _
  |exact Zm _ _
  |exact ZH _ _ _
  |exact Zp _ _
  |exact Zz _ _
  |exact Zu _ _ _
  |exact QG _
  |exact Q5 _ _ _ _
  |exact QS _
  |exact Zv _
  |exact ZD _
  |exact ZG _
  |exact Zi _
  |exact ZA _
  |exact ZF _ _
  |exact Ji _ _ _
  |exact Jq _ _ _ _ _ _
  |apply Qc
  |intro _
  |apply Qp
  |split
  |dsimp only
theorem Qdm {s:Sem α}{f:α→β}(h:D T F F' LO X s):D T F F' LO X (f<$>s):=(Qc h fun a=>Qd (f a):D T F F' LO X (s>>= fun a=>pure (f a)))
theorem Ow {γ δ:Type}(f:γ→Sem δ)(hf:∀x,D T F F' LO X (f x))(l:Array γ):D T F F' LO X (l.mapM f):=by
 rw[Array.mapM_eq_mapM_toList];refine Qdm ?_;generalize l.toList=k
 induction k with
 |nil=>exact Qd _
 |cons x l ih=>
  rw[List.mapM_cons];exact Qc (hf x) fun _=>Qc ih fun _=>Qd _
end
section
variable {T:Tables} {F F':Array Func} {LO:Loop→Prop} {X:Nat→Bool} {α β:Type}
theorem Qdb {γ:Type}(l:Array γ)(f:γ→β→Sem (ForInStep β))(hf:∀x b,D T F F' LO X (f x b))(b:β):D T F F' LO X (forIn l b f):=by
 rw[←Array.forIn_toList];generalize l.toList=k
 induction k generalizing b with
 |nil=>exact Qd _
 |cons x k ih=>
  rw[List.forIn_cons];refine Qc (hf x b) fun s=>?_
  cases s with
  |done b=>exact Qd _
  |yield b=>exact ih b
theorem QcW (t:TypeId)(ps:Array (Nat×Value)):D T F F' LO X (Instr.build t ps):=by
 unfold Instr.build;refine Qc (QT _) fun z=>Qc (Qy _) fun u=>?_;split
 ·refine Qc (Ow _ (fun f=>Qc (QV _) fun _=>Qd _) _) fun places=>?_;split
  ·exact Qd _
  ·exact Qh _
 ·refine Qc (QV _) fun _=>?_;split
  ·exact Qd _
  ·exact Qh _
 ·exact Qh _
theorem Qdy (x:Value):D T F F' LO X (Conv.bytesToString x):=by
 unfold Conv.bytesToString;split
 ·exact Qd _
 ·refine Qc (Zt _ _) fun cs=>Qc (Qdb _ _ (fun c s=>?_) _) fun s=>Qd _;dsimp only;split
  ·exact Qd _
  ·exact Qh _
 ·exact Qh _
theorem QcX (t:TypeId)(n:Nat)(ps:Array (Nat×Value)):D T F F' LO X (Instr.buildSlice t n ps):=by
 unfold Instr.buildSlice
 repeat' first
  |exact Qd _
  |exact Qh _
  |exact Qy _
  |exact QH _
  |exact QT _
  |exact QV _
  |exact Zc _
  |exact QX _ _
  |exact QY _ _ _
  |exact Zb _
  |exact Zh _
  |exact Zk _
  |exact Zg _
  |exact Zo _
  |exact Zt _ _
  |exact Zq _ _ _
  |exact Zm _ _
  |exact ZH _ _ _
  |exact Zp _ _
  |exact Zz _ _
  |exact Zu _ _ _
  |exact QG _
  |exact Q5 _ _ _ _
  |exact QS _
  |exact Zv _
  |exact ZD _
  |exact ZG _
  |exact Zi _
  |exact ZA _
  |exact ZF _ _
  |exact Ji _ _ _
  |exact Jq _ _ _ _ _ _
  |apply Qc
  |intro _
  |apply Qp
  |split
  |dsimp only
theorem QdA (x:Value)(t a:TypeId)(b:Bool):D T F F' LO X (Instr.typeAssert x t a b):=by
 unfold Instr.typeAssert;dsimp only
 repeat' first
  |exact Qd _
  |exact Qh _
  |exact Qy _
  |exact QH _
  |exact QT _
  |exact QV _
  |exact Zc _
  |exact QX _ _
  |exact QY _ _ _
  |exact Zb _
  |exact Zh _
  |exact Zk _
  |exact Zg _
  |exact Zo _
  |exact Zt _ _
  |exact Zq _ _ _
  |exact Zm _ _
  |exact ZH _ _ _
  |exact Zp _ _
  |exact Zz _ _
  |exact Zu _ _ _
  |exact QG _
  |exact Q5 _ _ _ _
  |exact QS _
  |exact Zv _
  |exact ZD _
  |exact ZG _
  |exact Zi _
  |exact ZA _
  |exact ZF _ _
  |exact Ji _ _ _
  |exact Jq _ _ _ _ _ _
  |apply Qc
  |intro _
  |apply Qp
  |split
  |dsimp only
theorem KE (x:Value):D T F F' LO X (Builtin.lenOf x):=by
 unfold Builtin.lenOf
 repeat' first
  |exact Qd _
  |exact Qh _
  |exact Qy _
  |exact QH _
  |exact QT _
  |exact QV _
  |exact Zc _
  |exact QX _ _
  |exact QY _ _ _
  |exact Zb _
  |exact Zh _
  |exact Zk _
  |exact Zg _
  |exact Zo _
  |exact Zt _ _
  |exact Zq _ _ _
  |exact Zm _ _
  |exact ZH _ _ _
  |exact Zp _ _
  |exact Zz _ _
  |exact Zu _ _ _
  |exact QG _
  |exact Q5 _ _ _ _
  |exact QS _
  |exact Zv _
  |exact ZD _
  |exact ZG _
  |exact Zi _
  |exact ZA _
  |exact ZF _ _
  |exact Ji _ _ _
  |exact Jq _ _ _ _ _ _
  |apply Qc
  |intro _
  |apply Qp
  |split
  |dsimp only
theorem KD (s n:Nat)(x:Value):D T F F' LO X (Builtin.firstCells s n x):=by
 unfold Builtin.firstCells
 repeat' first
  |exact Qd _
  |exact Qh _
  |exact Qy _
  |exact QH _
  |exact QT _
  |exact QV _
  |exact Zc _
  |exact QX _ _
  |exact QY _ _ _
  |exact Zb _
  |exact Zh _
  |exact Zk _
  |exact Zg _
  |exact Zo _
  |exact Zt _ _
  |exact Zq _ _ _
  |exact Zm _ _
  |exact ZH _ _ _
  |exact Zp _ _
  |exact Zz _ _
  |exact Zu _ _ _
  |exact QG _
  |exact Q5 _ _ _ _
  |exact QS _
  |exact Zv _
  |exact ZD _
  |exact ZG _
  |exact Zi _
  |exact ZA _
  |exact ZF _ _
  |exact Ji _ _ _
  |exact Jq _ _ _ _ _ _
  |exact KE _
  |apply Qc
  |intro _
  |apply Qp
  |split
  |dsimp only
theorem Qc2 (a:Array TypeId)(t:TypeId)(x:Array Value):D T F F' LO X (Builtin.copy_ a t x):=by
 unfold Builtin.copy_
 repeat' first
  |exact Qd _
  |exact Qh _
  |exact Qy _
  |exact QH _
  |exact QT _
  |exact QV _
  |exact Zc _
  |exact QX _ _
  |exact QY _ _ _
  |exact Zb _
  |exact Zh _
  |exact Zk _
  |exact Zg _
  |exact Zo _
  |exact Zt _ _
  |exact Zq _ _ _
  |exact Zm _ _
  |exact ZH _ _ _
  |exact Zp _ _
  |exact Zz _ _
  |exact Zu _ _ _
  |exact QG _
  |exact Q5 _ _ _ _
  |exact QS _
  |exact Zv _
  |exact ZD _
  |exact ZG _
  |exact Zi _
  |exact ZA _
  |exact ZF _ _
  |exact Ji _ _ _
  |exact Jq _ _ _ _ _ _
  |exact KE _
  |exact KD _ _ _
  |apply Qc
  |intro _
  |apply Qp
  |split
  |dsimp only
theorem Qdh (a:Array TypeId)(t:TypeId)(x:Array Value):D T F F' LO X (Builtin.len_ a t x):=by
 unfold Builtin.len_;split
 ·refine Qc (Qy _) fun u=>?_;split
  all_goals first
   |exact Qd _
   |exact Qh _
   |(refine Qc (Qy _) fun _=>?_;split<;>first|exact Qd _|exact Qh _)
   |(refine Vp _ (fun o _ _=>?_) (fun _ _=>Zy _) (Zy _);split<;>first|exact Qd _|exact Qh _)
 ·exact Qh _
theorem QcY (a:Array TypeId)(t:TypeId)(x:Array Value):D T F F' LO X (Builtin.clear_ a t x):=by
 unfold Builtin.clear_;split
 ·refine Qc (Qy _) fun u=>?_;dsimp only;split
  ·exact Qc (Qd _) fun _=>Qd _
  ·exact Qc (Qd _) fun _=>Qd _
  ·exact Qc (Qd _) fun _=>Qd _
  ·refine Vp _ (fun o hX _=>?_) (fun _ _=>Zy _) (Zy _);split
   ·exact Qc ⟨UD _ hX trivial trivial⟩ fun _=>Qd _
   ·exact Qc (Qh _) fun _=>Qd _
  ·exact Qc (QT _) fun _=>Qc (Zq _ _ _) fun _=>Qd _
  ·exact Qc (Qh _) fun _=>Qd _
 ·exact Qh _
theorem Qds (t:TypeId)(x:Value):D T F F' LO X (Instr.range t x):=by
 unfold Instr.range;refine Qc (Qy _) fun u=>?_;have hn:∀o,Yx LO o→D T F F' LO X (newObj o>>= fun r=>pure (Value.pointer (some ⟨r,0,none⟩))):=fun o ho=>Qc ⟨UC ho fun _ _=>trivial⟩ fun _=>Qd _;dsimp only;split
 all_goals first
  |exact Qc (Qd _) fun _=>hn _ trivial
  |exact hn _ trivial
  |exact Qh _
  |exact Qc (Qh _) fun _=>hn _ trivial
  |(refine Vp _ (fun o hX _=>?_) (fun _ _=>Zy _) (Zy _)
    split<;>first|exact hn _ trivial|exact Qh _)
theorem Qdp (x:Value)(t:TypeId):D T F F' LO X (Instr.next x true t):=by
 unfold Instr.next;dsimp only;split
 ·refine Vp _ (fun o hX _=>?_) (fun _ _=>Zy _) (Zy _);split
  ·split
   ·exact Qc ⟨UD _ hX trivial trivial⟩ fun _=>Qd _
   ·exact Qd _
  all_goals first|exact Qh _|contradiction
 ·exact Qh _
end
end Co
end Go.Proofs.YtcpnkpogebjieaaGreat
