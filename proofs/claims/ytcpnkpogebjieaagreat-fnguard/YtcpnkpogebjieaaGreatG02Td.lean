/- The operations of a function's code, in two worlds at once (see Ta): the tables of types -/
import Derived.Test.YtcpnkpogebjieaaGreatG01Tb
namespace Go.Proofs.YtcpnkpogebjieaaGreat
namespace Co
open Go.Conc
abbrev PP (T:Tables)(F:Array Func):Program:={toTables:=T,funcs:=F}
structure D (T:Tables) (F F':Array Func) (LO:Loop→Prop) (X:Nat→Bool) {α:Type} (s:Sem α):Prop where
 tr:Tr (PP T F) (PP T F') LO X (fun _=>True) s s
section
variable {T:Tables} {F F':Array Func} {LO:Loop→Prop} {X:Nat→Bool} {α β:Type}
theorem Qc (a:α):D T F F' LO X (pure a):=⟨Q4 a trivial⟩
theorem Qf (h:Halt)(hh:HOk h:=by exact True.intro):D T F F' LO X (.halt h:Sem α):=⟨ZS h _ hh⟩
theorem Qb {s:Sem α}{f:α→Sem β}(hs:D T F F' LO X s)(hf:∀a,D T F F' LO X (f a)):D T F F' LO X (s>>= f):=⟨Zn hs.tr fun a _=>(hf a).tr⟩
theorem QY (a:Addr)(m:Mode):D T F F' LO X (load a m):=⟨QfS a m fun _=>trivial⟩
theorem QX (a:Addr)(v:Value)(m:Mode):D T F F' LO X (store a v m):=⟨QgX a v m trivial⟩
theorem QQ (q:Question):D T F F' LO X (choose q):=⟨OB q fun _=>trivial⟩
theorem Qo {c:Prop}[Decidable c]{x y:Sem α}(hx:D T F F' LO X x)(hy:D T F F' LO X y):D T F F' LO X (if c then x else y):=by split<;>assumption
def Jd (s:Sem α):Prop:=∀(LO:Loop→Prop) P w,WOk LO w→∃h w1,s.run P w=.halt h w1∧HOk h∧WOk LO w1
def Saf (s:Sem α):Prop:=∀(LO:Loop→Prop) P w,WOk LO w→(∀h w1,s.run P w=.halt h w1→HOk h∧WOk LO w1)∧∀a w1,s.run P w=.ok a w1→WOk LO w1
theorem JB {P P':Program}{Q:α→Prop}{s':Sem α}(h:Jd s')(s:Sem α):Tr P P' LO X Q s' s:=fun _ w' _ _ hW _=>by
 obtain⟨x,w1,h1,h2⟩:=h LO P' w' hW
 rw[h1]
 exact⟨fun a w1' hr=>(by cases hr),fun y w1' hr=>by cases hr;exact h2⟩
theorem Zs (h:Halt)(hh:HOk h:=by exact True.intro):Jd (.halt h:Sem α):=fun _ _ w hW=>⟨h,w,rfl,hh,hW⟩
theorem Js {s:Sem α}{f:α→Sem β}(hs:Saf s)(hf:∀a,Jd (f a)):Jd (s>>= f):=by
 intro LO P w hW
 rw[Sem.run_bind]
 cases h:s.run P w with
 |halt x y=>exact⟨x,y,rfl,(hs LO P w hW).1 x y h⟩
 |ok a w2=>exact hf a LO P w2 ((hs LO P w hW).2 a w2 h)
theorem Um {s:Sem α}{f:α→Sem β}(h:Jd s):Jd (s>>= f):=by
 intro LO P w hW
 obtain⟨x,w1,h1,h2⟩:=h LO P w hW
 exact⟨x,w1,by rw[Sem.run_bind,h1];rfl,h2⟩
theorem Vx {c:Prop}[Decidable c]{x y:Sem α}(hx:Jd x)(hy:Jd y):Jd (if c then x else y):=by split<;>assumption
theorem Jw (a:α):Saf (pure a:Sem α):=fun _ _ _ hW=>⟨fun _ _ h=>(by cases h),fun _ _ h=>by cases h;exact hW⟩
theorem Vr (h:Halt)(hh:HOk h:=by exact True.intro):Saf (.halt h:Sem α):=fun _ _ _ hW=>⟨fun _ _ e=>(by cases e;exact⟨hh,hW⟩),fun _ _ h=>by cases h⟩
theorem Jz {s:Sem α}{f:α→Sem β}(hs:Saf s)(hf:∀a,Saf (f a)):Saf (s>>= f):=by
 intro LO P w hW
 rw[Sem.run_bind]
 obtain⟨h1,h2⟩:=hs LO P w hW
 cases h0:s.run P w with
 |halt x y=>exact⟨fun h w1 hr=>(by cases hr;exact h1 _ _ h0),fun a w1 hr=>by cases hr⟩
 |ok a w2=>exact hf a LO P w2 (h2 a w2 h0)
theorem QdM {c:Prop}[Decidable c]{x y:Sem α}(hx:Saf x)(hy:Saf y):Saf (if c then x else y):=by split<;>assumption
theorem PG (q:Question):Saf (choose q):=by
 intro LO P w hW
 simp only[choose,Sem.run]
 split
 ·exact⟨fun _ _ h=>(by cases h),fun _ _ h=>by cases h;exact hW⟩
 ·exact⟨fun _ _ h=>(by cases h),fun _ _ h=>by cases h;exact hW⟩
theorem VC:Saf program:=fun _ _ _ hW=>⟨fun _ _ h=>(by cases h),fun _ _ h=>by cases h;exact hW⟩
theorem QfD (e:TypeId)(c:Array Value):Saf (newObj (.cells c e)):=fun _ _ _ hW=>⟨fun _ _ h=>(by cases h),fun _ _ h=>by cases h;exact hW.push trivial⟩
theorem Qex (r:Nat):Saf (shape r):=fun _ _ _ hW=>⟨fun _ _ h=>(by cases h),fun _ _ h=>by cases h;exact hW⟩
theorem QcN (a:Addr):Saf (frozen a):=fun _ _ _ hW=>⟨fun _ _ h=>(by cases h),fun _ _ h=>by cases h;exact hW⟩
theorem PV (m:Mark):Saf (mark m):=fun _ _ _ hW=>⟨fun _ _ h=>(by cases h),fun _ _ h=>by cases h;exact hW⟩
theorem QeU {γ:Type}(a:Ask γ)(w:World):(w.ask a).2.heap=w.heap:=by
 induction a generalizing w with
 |done a=>rfl
 |ask what range k ih=>
  simp only[World.ask]
  split
  ·exact ih 0 w
  ·exact ih _ {w with drawn:=w.drawn+1}
theorem QfQ (c:Sys)(w:World):(w.sys c).2.heap=w.heap:=by
 have h:=QeU (Kernel.perform c w.os) w
 unfold World.sys
 generalize w.ask (Kernel.perform c w.os)=x at h
 obtain⟨⟨r,os⟩,w1⟩:=x
 cases r<;>first|rfl|exact h
theorem Qd9 (c:Sys):Saf (sys c):=fun LO P w hW=>⟨fun _ _ h=>(by cases h),fun a w1 h=>by
 have e:w1=(w.sys c).2:=by
  simp only[sys,Sem.run,Result.ok.injEq]at h
  exact h.2.symm
 subst e
 intro r o ho
 rw[QfQ]at ho
 exact hW r o ho⟩
theorem Qfo (t:TypeId):Saf (typeInfo t):=by
 unfold typeInfo
 refine Jz VC fun p=>?_
 split
 ·exact Jw _
 ·exact Vr _
theorem Qbj (t:TypeId):Saf (underlying t):=by
 unfold underlying
 refine Jz VC fun p=>?_
 split
 ·exact Jw _
 ·exact Vr _
theorem OQ (t:TypeId):Saf (elemOf t):=by
 unfold elemOf
 refine Jz (Qbj _) fun p=>?_
 split
 ·exact Jw _
 ·exact Vr _
theorem P2 (t:TypeId)(v:Value):Saf (newVar t v):=Jz (QfD _ _) fun _=>Jw _
theorem JR (e:RuntimeError):Jd (runtimePanic e:Sem α):=by
 unfold runtimePanic
 refine Js VC fun p=>?_
 cases e<;>simp only
 case typeAssertion=>exact Js (OQ _) fun _=>Js (P2 _ _) fun _=>Zs _
 case panicNil=>exact Js (OQ _) fun _=>Js (P2 _ _) fun _=>Zs _
 all_goals exact Zs _
theorem QE (e:RuntimeError):D T F F' LO X (runtimePanic e:Sem α):=⟨JB (JR e) _⟩
theorem Q2 (k:IntKind)(x y:Int)(c:BoundsCode):D T F F' LO X (boundsPanic k x y c:Sem α):=⟨JB (by
 unfold boundsPanic
 dsimp only
 split
 ·exact Js (Jz (PG _) fun _=>Jw _) fun _=>JR _
 ·exact Js (Jw _) fun _=>JR _) _⟩
theorem Uj {f:Program→Sem β}(h:Tr (PP T F) (PP T F') LO X (fun _=>True) (f (PP T F')) (f (PP T F))):D T F F' LO X (program>>= f):=⟨Yu h⟩
theorem Qcb (t:TypeId):Tr (PP T F) (PP T F') LO X (fun i=>T.info? t=some i) (typeInfo t) (typeInfo t):=by
 refine Yu ?_
 show Tr _ _ _ _ _ (match T.info? t with|some i=>pure i|none=>stuck "no such type") (match T.info? t with|some i=>pure i|none=>stuck "no such type")
 cases h:T.info? t with
 |none=>exact ZS _ _
 |some i=>exact Q4 i rfl
theorem QH (t:TypeId):D T F F' LO X (typeInfo t):=⟨PR (Qcb t) fun _ _=>trivial⟩
theorem YJ (t:TypeId):Tr (PP T F) (PP T F') LO X (fun i=>(PP T F).underlying t=some i) (underlying t) (underlying t):=by
 refine Yu ?_
 have e:(PP T F').underlying t=(PP T F).underlying t:=rfl
 rw[e]
 cases h:(PP T F).underlying t with
 |none=>exact ZS _ _
 |some i=>exact Q4 i rfl
theorem Qv (t:TypeId):D T F F' LO X (underlying t):=⟨PR (YJ t) fun _ _=>trivial⟩
theorem QS (t:TypeId):D T F F' LO X (zeroValue t):=by
 unfold zeroValue
 repeat' first
  |exact Qc _
  |exact Qf _
  |exact Qv _
  |exact QH _
  |exact QY _ _
  |exact QX _ _ _
  |exact QE _
  |exact Q2 _ _ _ _
  |exact QQ _
  |apply Qb
  |intro _
  |apply Qo
  |split
  |dsimp only
theorem QT (t:TypeId):D T F F' LO X (sizeOf t):=by
 unfold sizeOf
 repeat' first
  |exact Qc _
  |exact Qf _
  |exact Qv _
  |exact QH _
  |exact QS _
  |exact QY _ _
  |exact QX _ _ _
  |exact QE _
  |exact Q2 _ _ _ _
  |exact QQ _
  |apply Qb
  |intro _
  |apply Qo
  |split
  |dsimp only
theorem Q9 (t:TypeId):D T F F' LO X (isAgg t):=by
 unfold isAgg
 repeat' first
  |exact Qc _
  |exact Qf _
  |exact Qv _
  |exact QH _
  |exact QS _
  |exact QT _
  |exact QY _ _
  |exact QX _ _ _
  |exact QE _
  |exact Q2 _ _ _ _
  |exact QQ _
  |apply Qb
  |intro _
  |apply Qo
  |split
  |dsimp only
theorem Zb (v:Value):D T F F' LO X (asIntOf v):=by
 unfold asIntOf
 repeat' first
  |exact Qc _
  |exact Qf _
  |exact Qv _
  |exact QH _
  |exact QS _
  |exact QT _
  |exact Q9 _
  |exact QY _ _
  |exact QX _ _ _
  |exact QE _
  |exact Q2 _ _ _ _
  |exact QQ _
  |apply Qb
  |intro _
  |apply Qo
  |split
  |dsimp only
theorem Za (v:Value):D T F F' LO X (asInt v):=by
 unfold asInt
 repeat' first
  |exact Qc _
  |exact Qf _
  |exact Qv _
  |exact QH _
  |exact QS _
  |exact QT _
  |exact Q9 _
  |exact QY _ _
  |exact QX _ _ _
  |exact Zb _
  |exact QE _
  |exact Q2 _ _ _ _
  |exact QQ _
  |apply Qb
  |intro _
  |apply Qo
  |split
  |dsimp only
theorem Zh (v:Value):D T F F' LO X (asBool v):=by
 unfold asBool
 repeat' first
  |exact Qc _
  |exact Qf _
  |exact Qv _
  |exact QH _
  |exact QS _
  |exact QT _
  |exact Q9 _
  |exact QY _ _
  |exact QX _ _ _
  |exact Za _
  |exact Zb _
  |exact QE _
  |exact Q2 _ _ _ _
  |exact QQ _
  |apply Qb
  |intro _
  |apply Qo
  |split
  |dsimp only
theorem Zl (v:Value):D T F F' LO X (asAgg v):=by
 unfold asAgg
 repeat' first
  |exact Qc _
  |exact Qf _
  |exact Qv _
  |exact QH _
  |exact QS _
  |exact QT _
  |exact Q9 _
  |exact QY _ _
  |exact QX _ _ _
  |exact Za _
  |exact Zb _
  |exact Zh _
  |exact QE _
  |exact Q2 _ _ _ _
  |exact QQ _
  |apply Qb
  |intro _
  |apply Qo
  |split
  |dsimp only
theorem Ze (v:Value):D T F F' LO X (asAddr v):=by
 unfold asAddr
 repeat' first
  |exact Qc _
  |exact Qf _
  |exact Qv _
  |exact QH _
  |exact QS _
  |exact QT _
  |exact Q9 _
  |exact QY _ _
  |exact QX _ _ _
  |exact Za _
  |exact Zb _
  |exact Zh _
  |exact Zl _
  |exact QE _
  |exact Q2 _ _ _ _
  |exact QQ _
  |apply Qb
  |intro _
  |apply Qo
  |split
  |dsimp only
theorem Zy (v:Value):D T F F' LO X (Instr.sureAddr v):=by
 unfold Instr.sureAddr
 repeat' first
  |exact Qc _
  |exact Qf _
  |exact Qv _
  |exact QH _
  |exact QS _
  |exact QT _
  |exact Q9 _
  |exact QY _ _
  |exact QX _ _ _
  |exact Za _
  |exact Zb _
  |exact Zh _
  |exact Ze _
  |exact Zl _
  |exact QE _
  |exact Q2 _ _ _ _
  |exact QQ _
  |apply Qb
  |intro _
  |apply Qo
  |split
  |dsimp only
theorem Qfk (a:Addr)(n:Nat):∀(i:Nat) (acc:Array Value),D T F F' LO X (loadCellsFrom a i n acc):=by
 induction n with
 |zero=>intro i acc;exact Qc _
 |succ n ih=>intro i acc;exact Qb (QY _ _) fun v=>ih _ _
theorem Zw (a:Addr)(n:Nat):D T F F' LO X (loadCells a n):=Qfk a n 0 #[]
theorem Zq (a:Addr)(vs:List Value):∀i:Nat,D T F F' LO X (storeCells a vs i):=by
 induction vs with
 |nil=>intro i;unfold storeCells;exact Qc _
 |cons v vs ih=>intro i;unfold storeCells;exact Qb (QX _ _ _) fun _=>ih _
theorem Zm (e:TypeId)(c:Array Value):D T F F' LO X (newRow e c):=Qb ⟨Ul (LO:=LO) trivial fun _ _=>trivial⟩ fun _=>Qc _
theorem Zz (t:TypeId)(v:Value):D T F F' LO X (newVar t v):=Zm t v.cells
theorem Zt (n:Nat):D T F F' LO X (askRoom n):=by
 unfold askRoom
 split
 ·exact⟨QfE trivial⟩
 ·exact Qc _
theorem Zj (t:TypeId)(a:Addr):D T F F' LO X (loadVar t a):=by
 unfold loadVar
 repeat' first
  |exact Qc _
  |exact Qf _
  |exact Qv _
  |exact QH _
  |exact QS _
  |exact QT _
  |exact Q9 _
  |exact QY _ _
  |exact QX _ _ _
  |exact Za _
  |exact Zb _
  |exact Zh _
  |exact Ze _
  |exact Zl _
  |exact Zw _ _
  |exact Zq _ _ _
  |exact Zm _ _
  |exact Zz _ _
  |exact QE _
  |exact Q2 _ _ _ _
  |exact QQ _
  |exact Zt _
  |exact Zy _
  |apply Qb
  |intro _
  |apply Qo
  |split
  |dsimp only
theorem ZC (t:TypeId)(a:Addr)(v:Value):D T F F' LO X (storeVar t a v):=by
 unfold storeVar
 repeat' first
  |exact Qc _
  |exact Qf _
  |exact Qv _
  |exact QH _
  |exact QS _
  |exact QT _
  |exact Q9 _
  |exact QY _ _
  |exact QX _ _ _
  |exact Za _
  |exact Zb _
  |exact Zh _
  |exact Ze _
  |exact Zl _
  |exact Zw _ _
  |exact Zq _ _ _
  |exact Zj _ _
  |exact Zm _ _
  |exact Zz _ _
  |exact QE _
  |exact Q2 _ _ _ _
  |exact QQ _
  |exact Zt _
  |exact Zy _
  |apply Qb
  |intro _
  |apply Qo
  |split
  |dsimp only
theorem Zr (t:TypeId)(cs:Array Value)(o:Nat):D T F F' LO X (part t cs o):=by
 unfold part
 repeat' first
  |exact Qc _
  |exact Qf _
  |exact Qv _
  |exact QH _
  |exact QS _
  |exact QT _
  |exact Q9 _
  |exact QY _ _
  |exact QX _ _ _
  |exact Za _
  |exact Zb _
  |exact Zh _
  |exact Ze _
  |exact Zl _
  |exact Zw _ _
  |exact Zq _ _ _
  |exact Zj _ _
  |exact ZC _ _ _
  |exact Zm _ _
  |exact Zz _ _
  |exact QE _
  |exact Q2 _ _ _ _
  |exact QQ _
  |exact Zt _
  |exact Zy _
  |apply Qb
  |intro _
  |apply Qo
  |split
  |dsimp only
theorem UR (r:Nat){f:Option (TypeId×Nat)→Sem β}(hf:∀o,D T F F' LO X (f o))(hx:∀e n,Tr (PP T F) (PP T F') LO X (fun _=>True) (f (some (e,0))) (f (some (e,n)))):D T F F' LO X (shape r>>= f):=⟨PX r (fun o=>(hf o).tr) hx⟩
theorem Va (r:Nat){f:Obj→Sem β}(hf:∀o,X r=false→Yt LO o→D T F F' LO X (f o))(hv:∀a t,Jd (f (.view a t)))(hd:Jd (f (.deferred none))):D T F F' LO X (getObj r>>= f):=
 ⟨V1 r (fun o h1 h2=>(hf o h1 h2).tr) (fun a t s=>JB (hv a t) s) (fun s=>JB hd s)⟩
end
section
variable {T:Tables} {F F':Array Func} {LO:Loop→Prop} {X:Nat→Bool} {α β:Type}
theorem Vu {γ:Type}{s:Sem α}{g:α→Sem β}{f:β→Sem γ}(h:D T F F' LO X (s>>= fun a=>g a>>= f)):D T F F' LO X ((s>>= g)>>= f):=by rw[Qal];exact h
theorem ZA (r:Nat):D T F F' LO X (numberAt r):=by
 unfold numberAt
 refine UR r (fun o=>?_) (fun e n=>Q4 _ trivial)
 cases o with
 |some x=>exact Qc _
 |none=>
  refine⟨UX r (fun o _ _=>?_) (fun _ o' o hp=>?_)⟩
  ·split<;>exact Q4 _ trivial
  ·rcases hp with⟨a,a',t,rfl,rfl⟩|⟨l,rfl,rfl⟩|⟨c,rfl,rfl⟩|⟨c,e,rfl,rfl⟩<;>exact Q4 _ trivial
theorem ZF (a:Addr):D T F F' LO X (noView a):=by
 unfold noView viewAt
 refine Vu (UR a.block (fun o=>?_) (fun e n=>Q4 _ trivial))
 cases o with
 |some x=>exact Qc _
 |none=>
  have h:D T F F' LO X ((getObj a.block>>= fun o=>match o with| .view a t=>pure (some (a,t))|_=>pure none)>>= fun(x:Option (Addr×TypeId))=>if x.isSome=true then unsupported (.unsafePointer "memory seen as another type")else pure PUnit.unit):=by
   refine Vu ⟨UX a.block (fun o _ _=>?_) (fun _ o' o hp=>?_)⟩
   ·split
    ·exact ZS _ _
    ·exact Q4 _ trivial
   ·rcases hp with⟨a,a',t,rfl,rfl⟩|⟨l,rfl,rfl⟩|⟨c,rfl,rfl⟩|⟨c,e,rfl,rfl⟩
    ·exact ZS _ _
    ·exact Q4 _ trivial
    ·exact Q4 _ trivial
    ·exact Q4 _ trivial
  exact h
theorem Ks (T:Tables)(F F':Array Func)(d:Nat):∀(e:TypeId) (k:Nat),byteOfCell (PP T F') d e k=byteOfCell (PP T F) d e k:=by
 induction d with
 |zero=>intro e k;rfl
 |succ d ih=>intro e k;simp only[byteOfCell,ih];rfl
theorem QeF (T:Tables)(F F':Array Func)(d:Nat):∀(e:TypeId) (k:Nat),cellOfByte (PP T F') d e k=cellOfByte (PP T F) d e k:=by
 induction d with
 |zero=>intro e k;rfl
 |succ d ih=>intro e k;simp only[cellOfByte,ih];rfl
theorem Qd8 (T:Tables)(F F':Array Func)(d:Nat)(e:TypeId)(c k:Nat)(b:Int):cellAtBytes (PP T F') d e c k b=cellAtBytes (PP T F) d e c k b:=by
 unfold cellAtBytes
 simp only[Ks T F F',QeF T F F']
 rfl
theorem Zf (a:Addr):D T F F' LO X (byteOf a):=by
 unfold byteOf
 split
 ·exact Qc _
 ·refine Uj ?_
  refine Zn (ZF a).tr fun _ _=>PX _ (fun o=>?_) (fun e n=>?_)
  ·cases o with
   |none=>exact ZS _ _
   |some x=>
    obtain⟨e,n⟩:=x
    have e1:(PP T F').cellsOf e=(PP T F).cellsOf e:=rfl
    have e2:(PP T F').depth=(PP T F).depth:=rfl
    have e3:(PP T F').bytesOf e=(PP T F).bytesOf e:=rfl
    dsimp only
    rw[e1,e2,e3,Ks T F F']
    split
    ·exact Q4 _ trivial
    ·split
     ·exact Q4 _ trivial
     ·exact ZS _ _
  ·have e1:(PP T F').cellsOf e=(PP T F).cellsOf e:=rfl
   have e2:(PP T F').depth=(PP T F).depth:=rfl
   have e3:(PP T F').bytesOf e=(PP T F).bytesOf e:=rfl
   dsimp only
   rw[e1,e2,e3,Ks T F F']
   split
   ·exact Q4 _ trivial
   ·split
    ·exact Q4 _ trivial
    ·exact ZS _ _
theorem Qbo (a:Addr)(c b:Nat):D T F F' LO X (partAt a c b):=by
 unfold partAt
 repeat' first
  |exact Qc _
  |exact Qf _
  |exact Qv _
  |exact QH _
  |exact QS _
  |exact QT _
  |exact Q9 _
  |exact QY _ _
  |exact QX _ _ _
  |exact Za _
  |exact Zb _
  |exact Zh _
  |exact Ze _
  |exact Zl _
  |exact Zw _ _
  |exact Zq _ _ _
  |exact Zj _ _
  |exact ZC _ _ _
  |exact Zm _ _
  |exact Zz _ _
  |exact Zr _ _ _
  |exact QE _
  |exact Q2 _ _ _ _
  |exact QQ _
  |exact Zt _
  |exact ZA _
  |exact ZF _
  |exact Zf _
  |exact Zy _
  |apply Qb
  |intro _
  |apply Qo
  |split
  |dsimp only
theorem ZH (a:Addr)(f:Field):D T F F' LO X (fieldPlace a f):=by
 unfold fieldPlace
 refine Qb (QT _) fun _=>?_
 split
 ·exact Qbo _ _ _
 ·exact Qc _
theorem Qd7 (s:TypeId)(v:Value)(f:Nat):D T F F' LO X (Instr.fieldAt s v f):=by
 unfold Instr.fieldAt
 repeat' first
  |exact Qc _
  |exact Qf _
  |exact Qv _
  |exact QH _
  |exact QS _
  |exact QT _
  |exact Q9 _
  |exact QY _ _
  |exact QX _ _ _
  |exact Za _
  |exact Zb _
  |exact Zh _
  |exact Ze _
  |exact Zl _
  |exact Zw _ _
  |exact Zq _ _ _
  |exact Zj _ _
  |exact ZC _ _ _
  |exact Zm _ _
  |exact Zz _ _
  |exact Zr _ _ _
  |exact QE _
  |exact Q2 _ _ _ _
  |exact QQ _
  |exact Zt _
  |exact ZA _
  |exact ZF _
  |exact Zf _
  |exact Zy _
  |exact ZH _ _
  |apply Qb
  |intro _
  |apply Qo
  |split
  |dsimp only
theorem QeX (t:TypeId)(v:Value):D T F F' LO X (Instr.loadAt t v):=by
 unfold Instr.loadAt
 repeat' first
  |exact Qc _
  |exact Qf _
  |exact Qv _
  |exact QH _
  |exact QS _
  |exact QT _
  |exact Q9 _
  |exact QY _ _
  |exact QX _ _ _
  |exact Za _
  |exact Zb _
  |exact Zh _
  |exact Ze _
  |exact Zl _
  |exact Zw _ _
  |exact Zq _ _ _
  |exact Zj _ _
  |exact ZC _ _ _
  |exact Zm _ _
  |exact Zz _ _
  |exact Zr _ _ _
  |exact QE _
  |exact Q2 _ _ _ _
  |exact QQ _
  |exact Zt _
  |exact ZA _
  |exact ZF _
  |exact Zf _
  |exact Zy _
  |exact ZH _ _
  |apply Qb
  |intro _
  |apply Qo
  |split
  |dsimp only
theorem QfK (t:TypeId)(v x:Value):D T F F' LO X (Instr.storeAt t v x):=by
 unfold Instr.storeAt
 repeat' first
  |exact Qc _
  |exact Qf _
  |exact Qv _
  |exact QH _
  |exact QS _
  |exact QT _
  |exact Q9 _
  |exact QY _ _
  |exact QX _ _ _
  |exact Za _
  |exact Zb _
  |exact Zh _
  |exact Ze _
  |exact Zl _
  |exact Zw _ _
  |exact Zq _ _ _
  |exact Zj _ _
  |exact ZC _ _ _
  |exact Zm _ _
  |exact Zz _ _
  |exact Zr _ _ _
  |exact QE _
  |exact Q2 _ _ _ _
  |exact QQ _
  |exact Zt _
  |exact ZA _
  |exact ZF _
  |exact Zf _
  |exact Zy _
  |exact ZH _ _
  |apply Qb
  |intro _
  |apply Qo
  |split
  |dsimp only
theorem Qb6 (t:TypeId)(x i:Value):D T F F' LO X (Instr.indexAt t x i):=by
 unfold Instr.indexAt
 repeat' first
  |exact Qc _
  |exact Qf _
  |exact Qv _
  |exact QH _
  |exact QS _
  |exact QT _
  |exact Q9 _
  |exact QY _ _
  |exact QX _ _ _
  |exact Za _
  |exact Zb _
  |exact Zh _
  |exact Ze _
  |exact Zl _
  |exact Zw _ _
  |exact Zq _ _ _
  |exact Zj _ _
  |exact ZC _ _ _
  |exact Zm _ _
  |exact Zz _ _
  |exact Zr _ _ _
  |exact QE _
  |exact Q2 _ _ _ _
  |exact QQ _
  |exact Zt _
  |exact ZA _
  |exact ZF _
  |exact Zf _
  |exact Zy _
  |exact ZH _ _
  |apply Qb
  |intro _
  |apply Qo
  |split
  |dsimp only
theorem Je (x:Value)(y:Nat)(c:BoundsCode):D T F F' LO X (Instr.sliceBound x y c):=by
 unfold Instr.sliceBound
 repeat' first
  |exact Qc _
  |exact Qf _
  |exact Qv _
  |exact QH _
  |exact QS _
  |exact QT _
  |exact Q9 _
  |exact QY _ _
  |exact QX _ _ _
  |exact Za _
  |exact Zb _
  |exact Zh _
  |exact Ze _
  |exact Zl _
  |exact Zw _ _
  |exact Zq _ _ _
  |exact Zj _ _
  |exact ZC _ _ _
  |exact Zm _ _
  |exact Zz _ _
  |exact Zr _ _ _
  |exact QE _
  |exact Q2 _ _ _ _
  |exact QQ _
  |exact Zt _
  |exact ZA _
  |exact ZF _
  |exact Zf _
  |exact Zy _
  |exact ZH _ _
  |apply Qb
  |intro _
  |apply Qo
  |split
  |dsimp only
theorem Ju (b:Bool)(l c:Nat)(x y z:Option Value):D T F F' LO X (Instr.sliceBounds b l c x y z):=by
 unfold Instr.sliceBounds
 repeat' first
  |exact Qc _
  |exact Qf _
  |exact Qv _
  |exact QH _
  |exact QS _
  |exact QT _
  |exact Q9 _
  |exact QY _ _
  |exact QX _ _ _
  |exact Za _
  |exact Zb _
  |exact Zh _
  |exact Ze _
  |exact Zl _
  |exact Zw _ _
  |exact Zq _ _ _
  |exact Zj _ _
  |exact ZC _ _ _
  |exact Zm _ _
  |exact Zz _ _
  |exact Zr _ _ _
  |exact QE _
  |exact Q2 _ _ _ _
  |exact QQ _
  |exact Zt _
  |exact ZA _
  |exact ZF _
  |exact Zf _
  |exact Zy _
  |exact ZH _ _
  |exact Je _ _ _
  |apply Qb
  |intro _
  |apply Qo
  |split
  |dsimp only
theorem Qc3 (t:TypeId)(v:Value)(x y z:Option Value):D T F F' LO X (Instr.slice t v x y z):=by
 unfold Instr.slice
 repeat' first
  |exact Qc _
  |exact Qf _
  |exact Qv _
  |exact QH _
  |exact QS _
  |exact QT _
  |exact Q9 _
  |exact QY _ _
  |exact QX _ _ _
  |exact Za _
  |exact Zb _
  |exact Zh _
  |exact Ze _
  |exact Zl _
  |exact Zw _ _
  |exact Zq _ _ _
  |exact Zj _ _
  |exact ZC _ _ _
  |exact Zm _ _
  |exact Zz _ _
  |exact Zr _ _ _
  |exact QE _
  |exact Q2 _ _ _ _
  |exact QQ _
  |exact Zt _
  |exact ZA _
  |exact ZF _
  |exact Zf _
  |exact Zy _
  |exact ZH _ _
  |exact Je _ _ _
  |exact Ju _ _ _ _ _ _
  |apply Qb
  |intro _
  |apply Qo
  |split
  |dsimp only
theorem QdN (t:TypeId)(v:Value)(x y z:Option Value):D T F F' LO X (Instr.sliceAt t v x y z):=by
 unfold Instr.sliceAt
 refine Qb (Qv _) fun _=>?_
 split
 ·repeat' first
   |exact Qc _
   |exact Qf _
   |exact Qv _
   |exact QH _
   |exact QS _
   |exact QT _
   |exact Q9 _
   |exact QY _ _
   |exact QX _ _ _
   |exact Za _
   |exact Zb _
   |exact Zh _
   |exact Ze _
   |exact Zl _
   |exact Zw _ _
   |exact Zq _ _ _
   |exact Zj _ _
   |exact ZC _ _ _
   |exact Zm _ _
   |exact Zz _ _
   |exact Zr _ _ _
   |exact QE _
   |exact Q2 _ _ _ _
   |exact QQ _
   |exact Zt _
   |exact ZA _
   |exact ZF _
   |exact Zf _
   |exact Zy _
   |exact ZH _ _
   |exact Je _ _ _
   |exact Ju _ _ _ _ _ _
   |apply Qb
   |intro _
   |apply Qo
   |split
   |dsimp only
 ·exact Qc3 _ _ _ _ _
theorem QeP (e:TypeId)(h:Bool)(v:Value):D T F F' LO X (Instr.alloc e h v):=by
 unfold Instr.alloc
 repeat' first
  |exact Qc _
  |exact Qf _
  |exact Qv _
  |exact QH _
  |exact QS _
  |exact QT _
  |exact Q9 _
  |exact QY _ _
  |exact QX _ _ _
  |exact Za _
  |exact Zb _
  |exact Zh _
  |exact Ze _
  |exact Zl _
  |exact Zw _ _
  |exact Zq _ _ _
  |exact Zj _ _
  |exact ZC _ _ _
  |exact Zm _ _
  |exact Zz _ _
  |exact Zr _ _ _
  |exact QE _
  |exact Q2 _ _ _ _
  |exact QQ _
  |exact Zt _
  |exact ZA _
  |exact ZF _
  |exact Zf _
  |exact Zy _
  |exact ZH _ _
  |exact Je _ _ _
  |exact Ju _ _ _ _ _ _
  |apply Qb
  |intro _
  |apply Qo
  |split
  |dsimp only
theorem QbX (e:TypeId)(v:Value):D T F F' LO X (Instr.box e v):=by
 unfold Instr.box
 repeat' first
  |exact Qc _
  |exact Qf _
  |exact Qv _
  |exact QH _
  |exact QS _
  |exact QT _
  |exact Q9 _
  |exact QY _ _
  |exact QX _ _ _
  |exact Za _
  |exact Zb _
  |exact Zh _
  |exact Ze _
  |exact Zl _
  |exact Zw _ _
  |exact Zq _ _ _
  |exact Zj _ _
  |exact ZC _ _ _
  |exact Zm _ _
  |exact Zz _ _
  |exact Zr _ _ _
  |exact QE _
  |exact Q2 _ _ _ _
  |exact QQ _
  |exact Zt _
  |exact ZA _
  |exact ZF _
  |exact Zf _
  |exact Zy _
  |exact ZH _ _
  |exact Je _ _ _
  |exact Ju _ _ _ _ _ _
  |apply Qb
  |intro _
  |apply Qo
  |split
  |dsimp only
theorem Qc6 (t:TypeId)(v:Value):D T F F' LO X (Instr.makeInterface t v):=by
 unfold Instr.makeInterface
 repeat' first
  |exact Qc _
  |exact Qf _
  |exact Qv _
  |exact QH _
  |exact QS _
  |exact QT _
  |exact Q9 _
  |exact QY _ _
  |exact QX _ _ _
  |exact Za _
  |exact Zb _
  |exact Zh _
  |exact Ze _
  |exact Zl _
  |exact Zw _ _
  |exact Zq _ _ _
  |exact Zj _ _
  |exact ZC _ _ _
  |exact Zm _ _
  |exact Zz _ _
  |exact Zr _ _ _
  |exact QE _
  |exact Q2 _ _ _ _
  |exact QQ _
  |exact Zt _
  |exact ZA _
  |exact ZF _
  |exact Zf _
  |exact Zy _
  |exact ZH _ _
  |exact Je _ _ _
  |exact Ju _ _ _ _ _ _
  |apply Qb
  |intro _
  |apply Qo
  |split
  |dsimp only
theorem QcG (t:TypeId)(l c:Value):D T F F' LO X (Instr.makeSlice t l c):=by
 unfold Instr.makeSlice
 repeat' first
  |exact Qc _
  |exact Qf _
  |exact Qv _
  |exact QH _
  |exact QS _
  |exact QT _
  |exact Q9 _
  |exact QY _ _
  |exact QX _ _ _
  |exact Za _
  |exact Zb _
  |exact Zh _
  |exact Ze _
  |exact Zl _
  |exact Zw _ _
  |exact Zq _ _ _
  |exact Zj _ _
  |exact ZC _ _ _
  |exact Zm _ _
  |exact Zz _ _
  |exact Zr _ _ _
  |exact QE _
  |exact Q2 _ _ _ _
  |exact QQ _
  |exact Zt _
  |exact ZA _
  |exact ZF _
  |exact Zf _
  |exact Zy _
  |exact ZH _ _
  |exact Je _ _ _
  |exact Ju _ _ _ _ _ _
  |apply Qb
  |intro _
  |apply Qo
  |split
  |dsimp only
theorem QdS (t:TypeId)(v:Value)(f:Nat):D T F F' LO X (Instr.field t v f):=by
 unfold Instr.field
 repeat' first
  |exact Qc _
  |exact Qf _
  |exact Qv _
  |exact QH _
  |exact QS _
  |exact QT _
  |exact Q9 _
  |exact QY _ _
  |exact QX _ _ _
  |exact Za _
  |exact Zb _
  |exact Zh _
  |exact Ze _
  |exact Zl _
  |exact Zw _ _
  |exact Zq _ _ _
  |exact Zj _ _
  |exact ZC _ _ _
  |exact Zm _ _
  |exact Zz _ _
  |exact Zr _ _ _
  |exact QE _
  |exact Q2 _ _ _ _
  |exact QQ _
  |exact Zt _
  |exact ZA _
  |exact ZF _
  |exact Zf _
  |exact Zy _
  |exact ZH _ _
  |exact Je _ _ _
  |exact Ju _ _ _ _ _ _
  |apply Qb
  |intro _
  |apply Qo
  |split
  |dsimp only
theorem Qce (t:TypeId)(v i:Value):D T F F' LO X (Instr.index t v i):=by
 unfold Instr.index
 repeat' first
  |exact Qc _
  |exact Qf _
  |exact Qv _
  |exact QH _
  |exact QS _
  |exact QT _
  |exact Q9 _
  |exact QY _ _
  |exact QX _ _ _
  |exact Za _
  |exact Zb _
  |exact Zh _
  |exact Ze _
  |exact Zl _
  |exact Zw _ _
  |exact Zq _ _ _
  |exact Zj _ _
  |exact ZC _ _ _
  |exact Zm _ _
  |exact Zz _ _
  |exact Zr _ _ _
  |exact QE _
  |exact Q2 _ _ _ _
  |exact QQ _
  |exact Zt _
  |exact ZA _
  |exact ZF _
  |exact Zf _
  |exact Zy _
  |exact ZH _ _
  |exact Je _ _ _
  |exact Ju _ _ _ _ _ _
  |apply Qb
  |intro _
  |apply Qo
  |split
  |dsimp only
theorem Qcm (v:Value)(i:Nat):D T F F' LO X (Instr.extract v i):=by
 unfold Instr.extract
 repeat' first
  |exact Qc _
  |exact Qf _
  |exact Qv _
  |exact QH _
  |exact QS _
  |exact QT _
  |exact Q9 _
  |exact QY _ _
  |exact QX _ _ _
  |exact Za _
  |exact Zb _
  |exact Zh _
  |exact Ze _
  |exact Zl _
  |exact Zw _ _
  |exact Zq _ _ _
  |exact Zj _ _
  |exact ZC _ _ _
  |exact Zm _ _
  |exact Zz _ _
  |exact Zr _ _ _
  |exact QE _
  |exact Q2 _ _ _ _
  |exact QQ _
  |exact Zt _
  |exact ZA _
  |exact ZF _
  |exact Zf _
  |exact Zy _
  |exact ZH _ _
  |exact Je _ _ _
  |exact Ju _ _ _ _ _ _
  |apply Qb
  |intro _
  |apply Qo
  |split
  |dsimp only
theorem QdQ {s:Sem α}{f:α→β}(h:D T F F' LO X s):D T F F' LO X (f<$>s):=(Qb h fun a=>Qc (f a):D T F F' LO X (s>>= fun a=>pure (f a)))
theorem Qao {γ δ:Type}(f:γ→Sem δ)(hf:∀x,D T F F' LO X (f x))(l:Array γ):D T F F' LO X (l.mapM f):=by
 rw[Array.mapM_eq_mapM_toList]
 refine QdQ ?_
 generalize l.toList=k
 induction k with
 |nil=>exact Qc _
 |cons x l ih=>
  rw[List.mapM_cons]
  exact Qb (hf x) fun _=>Qb ih fun _=>Qc _
end
end Co
end Go.Proofs.YtcpnkpogebjieaaGreat
