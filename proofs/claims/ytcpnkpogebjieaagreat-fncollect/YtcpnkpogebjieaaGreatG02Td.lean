/- The operations of a function's code, in two worlds at once (see Ta): the tables of types -/
import Derived.Test.YtcpnkpogebjieaaGreatG01Tb
namespace Go.Proofs.YtcpnkpogebjieaaGreat
namespace Co
open Go.Conc
abbrev PP (T:Tables)(F:Array Func):Program:={toTables:=T,funcs:=F}
structure D (T:Tables) (F F':Array Func) (LO:Loop→Prop) (X:Nat→Bool) {α:Type} (s:Sem α):Prop where
 tr:Tr (PP T F) (PP T F') LO X (fun _=>True) s s
section
variable {T:Tables} {F F':Array Func} {LO:Loop→Prop} {X:Nat→Bool} {α β:Type}
theorem Qd (a:α):D T F F' LO X (pure a):=⟨Q4 a trivial⟩
theorem Qf (h:Halt)(hh:HOk h:=by exact True.intro):D T F F' LO X (.halt h:Sem α):=⟨ZT h _ hh⟩
theorem Qb {s:Sem α}{f:α→Sem β}(hs:D T F F' LO X s)(hf:∀a,D T F F' LO X (f a)):D T F F' LO X (s>>= f):=⟨Zq hs.tr fun a _=>(hf a).tr⟩
theorem QU (a:Addr)(m:Mode):D T F F' LO X (load a m):=⟨QgU a m fun _=>trivial⟩
theorem QV (a:Addr)(v:Value)(m:Mode):D T F F' LO X (store a v m):=⟨QgW a v m trivial⟩
theorem QQ (q:Question):D T F F' LO X (choose q):=⟨QaS q fun _=>trivial⟩
theorem Qn {c:Prop}[Decidable c]{x y:Sem α}(hx:D T F F' LO X x)(hy:D T F F' LO X y):D T F F' LO X (if c then x else y):=by split<;>assumption
def Jc (s:Sem α):Prop:=∀(LO:Loop→Prop) P w,WOk LO w→∃h w1,s.run P w=.halt h w1∧HOk h∧WOk LO w1
def Saf (s:Sem α):Prop:=∀(LO:Loop→Prop) P w,WOk LO w→(∀h w1,s.run P w=.halt h w1→HOk h∧WOk LO w1)∧∀a w1,s.run P w=.ok a w1→WOk LO w1
theorem JB {P P':Program}{Q:α→Prop}{s':Sem α}(h:Jc s')(s:Sem α):Tr P P' LO X Q s' s:=fun _ w' _ _ hW _=>by
 obtain⟨x,w1,h1,h2⟩:=h LO P' w' hW
 rw[h1]
 exact⟨fun a w1' hr=>(by cases hr),fun y w1' hr=>by cases hr;exact h2⟩
theorem Zw (h:Halt)(hh:HOk h:=by exact True.intro):Jc (.halt h:Sem α):=fun _ _ w hW=>⟨h,w,rfl,hh,hW⟩
theorem Jn {s:Sem α}{f:α→Sem β}(hs:Saf s)(hf:∀a,Jc (f a)):Jc (s>>= f):=by
 intro LO P w hW
 rw[Sem.run_bind]
 cases h:s.run P w with
 |halt x y=>exact⟨x,y,rfl,(hs LO P w hW).1 x y h⟩
 |ok a w2=>exact hf a LO P w2 ((hs LO P w hW).2 a w2 h)
theorem Uh {s:Sem α}{f:α→Sem β}(h:Jc s):Jc (s>>= f):=by
 intro LO P w hW
 obtain⟨x,w1,h1,h2⟩:=h LO P w hW
 exact⟨x,w1,by rw[Sem.run_bind,h1];rfl,h2⟩
theorem Vq {c:Prop}[Decidable c]{x y:Sem α}(hx:Jc x)(hy:Jc y):Jc (if c then x else y):=by split<;>assumption
theorem JA (a:α):Saf (pure a:Sem α):=fun _ _ _ hW=>⟨fun _ _ h=>(by cases h),fun _ _ h=>by cases h;exact hW⟩
theorem VC (h:Halt)(hh:HOk h:=by exact True.intro):Saf (.halt h:Sem α):=fun _ _ _ hW=>⟨fun _ _ e=>(by cases e;exact⟨hh,hW⟩),fun _ _ h=>by cases h⟩
theorem Jz {s:Sem α}{f:α→Sem β}(hs:Saf s)(hf:∀a,Saf (f a)):Saf (s>>= f):=by
 intro LO P w hW
 rw[Sem.run_bind]
 obtain⟨h1,h2⟩:=hs LO P w hW
 cases h0:s.run P w with
 |halt x y=>exact⟨fun h w1 hr=>(by cases hr;exact h1 _ _ h0),fun a w1 hr=>by cases hr⟩
 |ok a w2=>exact hf a LO P w2 (h2 a w2 h0)
theorem QfU {c:Prop}[Decidable c]{x y:Sem α}(hx:Saf x)(hy:Saf y):Saf (if c then x else y):=by split<;>assumption
theorem Qaj (q:Question):Saf (choose q):=by
 intro LO P w hW
 simp only[choose,Sem.run]
 split
 ·exact⟨fun _ _ h=>(by cases h),fun _ _ h=>by cases h;exact hW⟩
 ·exact⟨fun _ _ h=>(by cases h),fun _ _ h=>by cases h;exact hW⟩
theorem VD:Saf program:=fun _ _ _ hW=>⟨fun _ _ h=>(by cases h),fun _ _ h=>by cases h;exact hW⟩
theorem QfW (e:TypeId)(c:Array Value):Saf (newObj (.cells c e)):=fun _ _ _ hW=>⟨fun _ _ h=>(by cases h),fun _ _ h=>by cases h;exact hW.push trivial⟩
theorem QfX (r:Nat):Saf (shape r):=fun _ _ _ hW=>⟨fun _ _ h=>(by cases h),fun _ _ h=>by cases h;exact hW⟩
theorem QfT (a:Addr):Saf (frozen a):=fun _ _ _ hW=>⟨fun _ _ h=>(by cases h),fun _ _ h=>by cases h;exact hW⟩
theorem Qam (m:Mark):Saf (mark m):=fun _ _ _ hW=>⟨fun _ _ h=>(by cases h),fun _ _ h=>by cases h;exact hW⟩
theorem QbD {γ:Type}(a:Ask γ)(w:World):(w.ask a).2.heap=w.heap:=by
 induction a generalizing w with
 |done a=>rfl
 |ask what range k ih=>
  simp only[World.ask]
  split
  ·exact ih 0 w
  ·exact ih _ {w with drawn:=w.drawn+1}
theorem Qgm (c:Sys)(w:World):(w.sys c).2.heap=w.heap:=by
 have h:=QbD (Kernel.perform c w.os) w
 unfold World.sys
 generalize w.ask (Kernel.perform c w.os)=x at h
 obtain⟨⟨r,os⟩,w1⟩:=x
 cases r<;>first|rfl|exact h
theorem QfY (c:Sys):Saf (sys c):=fun LO P w hW=>⟨fun _ _ h=>(by cases h),fun a w1 h=>by
 have e:w1=(w.sys c).2:=by
  simp only[sys,Sem.run,Result.ok.injEq]at h
  exact h.2.symm
 subst e
 intro r o ho
 rw[Qgm]at ho
 exact hW r o ho⟩
theorem QfZ (t:TypeId):Saf (typeInfo t):=by
 unfold typeInfo
 refine Jz VD fun p=>?_
 split
 ·exact JA _
 ·exact VC _
theorem Qao (t:TypeId):Saf (underlying t):=by
 unfold underlying
 refine Jz VD fun p=>?_
 split
 ·exact JA _
 ·exact VC _
theorem Qak (t:TypeId):Saf (elemOf t):=by
 unfold elemOf
 refine Jz (Qao _) fun p=>?_
 split
 ·exact JA _
 ·exact VC _
theorem Qan (t:TypeId)(v:Value):Saf (newVar t v):=Jz (QfW _ _) fun _=>JA _
theorem JR (e:RuntimeError):Jc (runtimePanic e:Sem α):=by
 unfold runtimePanic
 refine Jn VD fun p=>?_
 cases e<;>simp only
 case typeAssertion=>exact Jn (Qak _) fun _=>Jn (Qan _ _) fun _=>Zw _
 case panicNil=>exact Jn (Qak _) fun _=>Jn (Qan _ _) fun _=>Zw _
 all_goals exact Zw _
theorem QF (e:RuntimeError):D T F F' LO X (runtimePanic e:Sem α):=⟨JB (JR e) _⟩
theorem Q2 (k:IntKind)(x y:Int)(c:BoundsCode):D T F F' LO X (boundsPanic k x y c:Sem α):=⟨JB (by
 unfold boundsPanic
 dsimp only
 split
 ·exact Jn (Jz (Qaj _) fun _=>JA _) fun _=>JR _
 ·exact Jn (JA _) fun _=>JR _) _⟩
theorem Y7 {f:Program→Sem β}(h:Tr (PP T F) (PP T F') LO X (fun _=>True) (f (PP T F')) (f (PP T F))):D T F F' LO X (program>>= f):=⟨YG h⟩
theorem Qgq (t:TypeId):Tr (PP T F) (PP T F') LO X (fun i=>T.info? t=some i) (typeInfo t) (typeInfo t):=by
 refine YG ?_
 show Tr _ _ _ _ _ (match T.info? t with|some i=>pure i|none=>stuck "no such type") (match T.info? t with|some i=>pure i|none=>stuck "no such type")
 cases h:T.info? t with
 |none=>exact ZT _ _
 |some i=>exact Q4 i rfl
theorem QG (t:TypeId):D T F F' LO X (typeInfo t):=⟨QaT (Qgq t) fun _ _=>trivial⟩
theorem YR (t:TypeId):Tr (PP T F) (PP T F') LO X (fun i=>(PP T F).underlying t=some i) (underlying t) (underlying t):=by
 refine YG ?_
 have e:(PP T F').underlying t=(PP T F).underlying t:=rfl
 rw[e]
 cases h:(PP T F).underlying t with
 |none=>exact ZT _ _
 |some i=>exact Q4 i rfl
theorem Qv (t:TypeId):D T F F' LO X (underlying t):=⟨QaT (YR t) fun _ _=>trivial⟩
theorem QR (t:TypeId):D T F F' LO X (zeroValue t):=by
 unfold zeroValue
 repeat' first
  |exact Qd _
  |exact Qf _
  |exact Qv _
  |exact QG _
  |exact QU _ _
  |exact QV _ _ _
  |exact QF _
  |exact Q2 _ _ _ _
  |exact QQ _
  |apply Qb
  |intro _
  |apply Qn
  |split
  |dsimp only
theorem QT (t:TypeId):D T F F' LO X (sizeOf t):=by
 unfold sizeOf
 repeat' first
  |exact Qd _
  |exact Qf _
  |exact Qv _
  |exact QG _
  |exact QR _
  |exact QU _ _
  |exact QV _ _ _
  |exact QF _
  |exact Q2 _ _ _ _
  |exact QQ _
  |apply Qb
  |intro _
  |apply Qn
  |split
  |dsimp only
theorem Za (t:TypeId):D T F F' LO X (isAgg t):=by
 unfold isAgg
 repeat' first
  |exact Qd _
  |exact Qf _
  |exact Qv _
  |exact QG _
  |exact QR _
  |exact QT _
  |exact QU _ _
  |exact QV _ _ _
  |exact QF _
  |exact Q2 _ _ _ _
  |exact QQ _
  |apply Qb
  |intro _
  |apply Qn
  |split
  |dsimp only
theorem Ze (v:Value):D T F F' LO X (asIntOf v):=by
 unfold asIntOf
 repeat' first
  |exact Qd _
  |exact Qf _
  |exact Qv _
  |exact QG _
  |exact QR _
  |exact QT _
  |exact Za _
  |exact QU _ _
  |exact QV _ _ _
  |exact QF _
  |exact Q2 _ _ _ _
  |exact QQ _
  |apply Qb
  |intro _
  |apply Qn
  |split
  |dsimp only
theorem Q9 (v:Value):D T F F' LO X (asInt v):=by
 unfold asInt
 repeat' first
  |exact Qd _
  |exact Qf _
  |exact Qv _
  |exact QG _
  |exact QR _
  |exact QT _
  |exact Za _
  |exact QU _ _
  |exact QV _ _ _
  |exact Ze _
  |exact QF _
  |exact Q2 _ _ _ _
  |exact QQ _
  |apply Qb
  |intro _
  |apply Qn
  |split
  |dsimp only
theorem Zh (v:Value):D T F F' LO X (asBool v):=by
 unfold asBool
 repeat' first
  |exact Qd _
  |exact Qf _
  |exact Qv _
  |exact QG _
  |exact QR _
  |exact QT _
  |exact Za _
  |exact QU _ _
  |exact QV _ _ _
  |exact Q9 _
  |exact Ze _
  |exact QF _
  |exact Q2 _ _ _ _
  |exact QQ _
  |apply Qb
  |intro _
  |apply Qn
  |split
  |dsimp only
theorem Zm (v:Value):D T F F' LO X (asAgg v):=by
 unfold asAgg
 repeat' first
  |exact Qd _
  |exact Qf _
  |exact Qv _
  |exact QG _
  |exact QR _
  |exact QT _
  |exact Za _
  |exact QU _ _
  |exact QV _ _ _
  |exact Q9 _
  |exact Ze _
  |exact Zh _
  |exact QF _
  |exact Q2 _ _ _ _
  |exact QQ _
  |apply Qb
  |intro _
  |apply Qn
  |split
  |dsimp only
theorem Zd (v:Value):D T F F' LO X (asAddr v):=by
 unfold asAddr
 repeat' first
  |exact Qd _
  |exact Qf _
  |exact Qv _
  |exact QG _
  |exact QR _
  |exact QT _
  |exact Za _
  |exact QU _ _
  |exact QV _ _ _
  |exact Q9 _
  |exact Ze _
  |exact Zh _
  |exact Zm _
  |exact QF _
  |exact Q2 _ _ _ _
  |exact QQ _
  |apply Qb
  |intro _
  |apply Qn
  |split
  |dsimp only
theorem Zy (v:Value):D T F F' LO X (Instr.sureAddr v):=by
 unfold Instr.sureAddr
 repeat' first
  |exact Qd _
  |exact Qf _
  |exact Qv _
  |exact QG _
  |exact QR _
  |exact QT _
  |exact Za _
  |exact QU _ _
  |exact QV _ _ _
  |exact Q9 _
  |exact Ze _
  |exact Zh _
  |exact Zd _
  |exact Zm _
  |exact QF _
  |exact Q2 _ _ _ _
  |exact QQ _
  |apply Qb
  |intro _
  |apply Qn
  |split
  |dsimp only
theorem QcG (a:Addr)(n:Nat):∀(i:Nat) (acc:Array Value),D T F F' LO X (loadCellsFrom a i n acc):=by
 induction n with
 |zero=>intro i acc;exact Qd _
 |succ n ih=>intro i acc;exact Qb (QU _ _) fun v=>ih _ _
theorem Zr (a:Addr)(n:Nat):D T F F' LO X (loadCells a n):=QcG a n 0 #[]
theorem Zo (a:Addr)(vs:List Value):∀i:Nat,D T F F' LO X (storeCells a vs i):=by
 induction vs with
 |nil=>intro i;unfold storeCells;exact Qd _
 |cons v vs ih=>intro i;unfold storeCells;exact Qb (QV _ _ _) fun _=>ih _
theorem Zn (e:TypeId)(c:Array Value):D T F F' LO X (newRow e c):=Qb ⟨Un (LO:=LO) trivial fun _ _=>trivial⟩ fun _=>Qd _
theorem Zx (t:TypeId)(v:Value):D T F F' LO X (newVar t v):=Zn t v.cells
theorem Zt (n:Nat):D T F F' LO X (askRoom n):=by
 unfold askRoom
 split
 ·exact⟨QgV trivial⟩
 ·exact Qd _
theorem Zj (t:TypeId)(a:Addr):D T F F' LO X (loadVar t a):=by
 unfold loadVar
 repeat' first
  |exact Qd _
  |exact Qf _
  |exact Qv _
  |exact QG _
  |exact QR _
  |exact QT _
  |exact Za _
  |exact QU _ _
  |exact QV _ _ _
  |exact Q9 _
  |exact Ze _
  |exact Zh _
  |exact Zd _
  |exact Zm _
  |exact Zr _ _
  |exact Zo _ _ _
  |exact Zn _ _
  |exact Zx _ _
  |exact QF _
  |exact Q2 _ _ _ _
  |exact QQ _
  |exact Zt _
  |exact Zy _
  |apply Qb
  |intro _
  |apply Qn
  |split
  |dsimp only
theorem ZD (t:TypeId)(a:Addr)(v:Value):D T F F' LO X (storeVar t a v):=by
 unfold storeVar
 repeat' first
  |exact Qd _
  |exact Qf _
  |exact Qv _
  |exact QG _
  |exact QR _
  |exact QT _
  |exact Za _
  |exact QU _ _
  |exact QV _ _ _
  |exact Q9 _
  |exact Ze _
  |exact Zh _
  |exact Zd _
  |exact Zm _
  |exact Zr _ _
  |exact Zo _ _ _
  |exact Zj _ _
  |exact Zn _ _
  |exact Zx _ _
  |exact QF _
  |exact Q2 _ _ _ _
  |exact QQ _
  |exact Zt _
  |exact Zy _
  |apply Qb
  |intro _
  |apply Qn
  |split
  |dsimp only
theorem Zs (t:TypeId)(cs:Array Value)(o:Nat):D T F F' LO X (part t cs o):=by
 unfold part
 repeat' first
  |exact Qd _
  |exact Qf _
  |exact Qv _
  |exact QG _
  |exact QR _
  |exact QT _
  |exact Za _
  |exact QU _ _
  |exact QV _ _ _
  |exact Q9 _
  |exact Ze _
  |exact Zh _
  |exact Zd _
  |exact Zm _
  |exact Zr _ _
  |exact Zo _ _ _
  |exact Zj _ _
  |exact ZD _ _ _
  |exact Zn _ _
  |exact Zx _ _
  |exact QF _
  |exact Q2 _ _ _ _
  |exact QQ _
  |exact Zt _
  |exact Zy _
  |apply Qb
  |intro _
  |apply Qn
  |split
  |dsimp only
theorem Ux (r:Nat){f:Option (TypeId×Nat)→Sem β}(hf:∀o,D T F F' LO X (f o))(hx:∀e n,Tr (PP T F) (PP T F') LO X (fun _=>True) (f (some (e,0))) (f (some (e,n)))):D T F F' LO X (shape r>>= f):=⟨QaU r (fun o=>(hf o).tr) hx⟩
theorem Vb (r:Nat){f:Obj→Sem β}(hf:∀o,X r=false→Yn LO o→D T F F' LO X (f o))(hv:∀a t,Jc (f (.view a t)))(hd:Jc (f (.deferred none))):D T F F' LO X (getObj r>>= f):=
 ⟨K9 r (fun o h1 h2=>(hf o h1 h2).tr) (fun a t s=>JB (hv a t) s) (fun s=>JB hd s)⟩
end
section
variable {T:Tables} {F F':Array Func} {LO:Loop→Prop} {X:Nat→Bool} {α β:Type}
theorem Va {γ:Type}{s:Sem α}{g:α→Sem β}{f:β→Sem γ}(h:D T F F' LO X (s>>= fun a=>g a>>= f)):D T F F' LO X ((s>>= g)>>= f):=by rw[Qaq];exact h
theorem ZA (r:Nat):D T F F' LO X (numberAt r):=by
 unfold numberAt
 refine Ux r (fun o=>?_) (fun e n=>Q4 _ trivial)
 cases o with
 |some x=>exact Qd _
 |none=>
  refine⟨UV r (fun o _ _=>?_) (fun _ o' o hp=>?_)⟩
  ·split<;>exact Q4 _ trivial
  ·rcases hp with⟨a,a',t,rfl,rfl⟩|⟨l,rfl,rfl⟩|⟨c,rfl,rfl⟩|⟨c,e,rfl,rfl⟩<;>exact Q4 _ trivial
theorem ZC (a:Addr):D T F F' LO X (noView a):=by
 unfold noView viewAt
 refine Va (Ux a.block (fun o=>?_) (fun e n=>Q4 _ trivial))
 cases o with
 |some x=>exact Qd _
 |none=>
  have h:D T F F' LO X ((getObj a.block>>= fun o=>match o with| .view a t=>pure (some (a,t))|_=>pure none)>>= fun(x:Option (Addr×TypeId))=>if x.isSome=true then unsupported (.unsafePointer "memory seen as another type")else pure PUnit.unit):=by
   refine Va ⟨UV a.block (fun o _ _=>?_) (fun _ o' o hp=>?_)⟩
   ·split
    ·exact ZT _ _
    ·exact Q4 _ trivial
   ·rcases hp with⟨a,a',t,rfl,rfl⟩|⟨l,rfl,rfl⟩|⟨c,rfl,rfl⟩|⟨c,e,rfl,rfl⟩
    ·exact ZT _ _
    ·exact Q4 _ trivial
    ·exact Q4 _ trivial
    ·exact Q4 _ trivial
  exact h
theorem VY (T:Tables)(F F':Array Func)(d:Nat):∀(e:TypeId) (k:Nat),byteOfCell (PP T F') d e k=byteOfCell (PP T F) d e k:=by
 induction d with
 |zero=>intro e k;rfl
 |succ d ih=>intro e k;simp only[byteOfCell,ih];rfl
theorem QbX (T:Tables)(F F':Array Func)(d:Nat):∀(e:TypeId) (k:Nat),cellOfByte (PP T F') d e k=cellOfByte (PP T F) d e k:=by
 induction d with
 |zero=>intro e k;rfl
 |succ d ih=>intro e k;simp only[cellOfByte,ih];rfl
theorem QbV (T:Tables)(F F':Array Func)(d:Nat)(e:TypeId)(c k:Nat)(b:Int):cellAtBytes (PP T F') d e c k b=cellAtBytes (PP T F) d e c k b:=by
 unfold cellAtBytes
 simp only[VY T F F',QbX T F F']
 rfl
theorem Zf (a:Addr):D T F F' LO X (byteOf a):=by
 unfold byteOf
 split
 ·exact Qd _
 ·refine Y7 ?_
  refine Zq (ZC a).tr fun _ _=>QaU _ (fun o=>?_) (fun e n=>?_)
  ·cases o with
   |none=>exact ZT _ _
   |some x=>
    obtain⟨e,n⟩:=x
    have e1:(PP T F').cellsOf e=(PP T F).cellsOf e:=rfl
    have e2:(PP T F').depth=(PP T F).depth:=rfl
    have e3:(PP T F').bytesOf e=(PP T F).bytesOf e:=rfl
    dsimp only
    rw[e1,e2,e3,VY T F F']
    split
    ·exact Q4 _ trivial
    ·split
     ·exact Q4 _ trivial
     ·exact ZT _ _
  ·have e1:(PP T F').cellsOf e=(PP T F).cellsOf e:=rfl
   have e2:(PP T F').depth=(PP T F).depth:=rfl
   have e3:(PP T F').bytesOf e=(PP T F).bytesOf e:=rfl
   dsimp only
   rw[e1,e2,e3,VY T F F']
   split
   ·exact Q4 _ trivial
   ·split
    ·exact Q4 _ trivial
    ·exact ZT _ _
theorem QcO (a:Addr)(c b:Nat):D T F F' LO X (partAt a c b):=by
 unfold partAt
 repeat' first
  |exact Qd _
  |exact Qf _
  |exact Qv _
  |exact QG _
  |exact QR _
  |exact QT _
  |exact Za _
  |exact QU _ _
  |exact QV _ _ _
  |exact Q9 _
  |exact Ze _
  |exact Zh _
  |exact Zd _
  |exact Zm _
  |exact Zr _ _
  |exact Zo _ _ _
  |exact Zj _ _
  |exact ZD _ _ _
  |exact Zn _ _
  |exact Zx _ _
  |exact Zs _ _ _
  |exact QF _
  |exact Q2 _ _ _ _
  |exact QQ _
  |exact Zt _
  |exact ZA _
  |exact ZC _
  |exact Zf _
  |exact Zy _
  |apply Qb
  |intro _
  |apply Qn
  |split
  |dsimp only
theorem ZB (a:Addr)(f:Field):D T F F' LO X (fieldPlace a f):=by
 unfold fieldPlace
 refine Qb (QT _) fun _=>?_
 split
 ·exact QcO _ _ _
 ·exact Qd _
theorem Qcw (s:TypeId)(v:Value)(f:Nat):D T F F' LO X (Instr.fieldAt s v f):=by
 unfold Instr.fieldAt
 repeat' first
  |exact Qd _
  |exact Qf _
  |exact Qv _
  |exact QG _
  |exact QR _
  |exact QT _
  |exact Za _
  |exact QU _ _
  |exact QV _ _ _
  |exact Q9 _
  |exact Ze _
  |exact Zh _
  |exact Zd _
  |exact Zm _
  |exact Zr _ _
  |exact Zo _ _ _
  |exact Zj _ _
  |exact ZD _ _ _
  |exact Zn _ _
  |exact Zx _ _
  |exact Zs _ _ _
  |exact QF _
  |exact Q2 _ _ _ _
  |exact QQ _
  |exact Zt _
  |exact ZA _
  |exact ZC _
  |exact Zf _
  |exact Zy _
  |exact ZB _ _
  |apply Qb
  |intro _
  |apply Qn
  |split
  |dsimp only
theorem QcF (t:TypeId)(v:Value):D T F F' LO X (Instr.loadAt t v):=by
 unfold Instr.loadAt
 repeat' first
  |exact Qd _
  |exact Qf _
  |exact Qv _
  |exact QG _
  |exact QR _
  |exact QT _
  |exact Za _
  |exact QU _ _
  |exact QV _ _ _
  |exact Q9 _
  |exact Ze _
  |exact Zh _
  |exact Zd _
  |exact Zm _
  |exact Zr _ _
  |exact Zo _ _ _
  |exact Zj _ _
  |exact ZD _ _ _
  |exact Zn _ _
  |exact Zx _ _
  |exact Zs _ _ _
  |exact QF _
  |exact Q2 _ _ _ _
  |exact QQ _
  |exact Zt _
  |exact ZA _
  |exact ZC _
  |exact Zf _
  |exact Zy _
  |exact ZB _ _
  |apply Qb
  |intro _
  |apply Qn
  |split
  |dsimp only
theorem QcU (t:TypeId)(v x:Value):D T F F' LO X (Instr.storeAt t v x):=by
 unfold Instr.storeAt
 repeat' first
  |exact Qd _
  |exact Qf _
  |exact Qv _
  |exact QG _
  |exact QR _
  |exact QT _
  |exact Za _
  |exact QU _ _
  |exact QV _ _ _
  |exact Q9 _
  |exact Ze _
  |exact Zh _
  |exact Zd _
  |exact Zm _
  |exact Zr _ _
  |exact Zo _ _ _
  |exact Zj _ _
  |exact ZD _ _ _
  |exact Zn _ _
  |exact Zx _ _
  |exact Zs _ _ _
  |exact QF _
  |exact Q2 _ _ _ _
  |exact QQ _
  |exact Zt _
  |exact ZA _
  |exact ZC _
  |exact Zf _
  |exact Zy _
  |exact ZB _ _
  |apply Qb
  |intro _
  |apply Qn
  |split
  |dsimp only
theorem QcB (t:TypeId)(x i:Value):D T F F' LO X (Instr.indexAt t x i):=by
 unfold Instr.indexAt
 repeat' first
  |exact Qd _
  |exact Qf _
  |exact Qv _
  |exact QG _
  |exact QR _
  |exact QT _
  |exact Za _
  |exact QU _ _
  |exact QV _ _ _
  |exact Q9 _
  |exact Ze _
  |exact Zh _
  |exact Zd _
  |exact Zm _
  |exact Zr _ _
  |exact Zo _ _ _
  |exact Zj _ _
  |exact ZD _ _ _
  |exact Zn _ _
  |exact Zx _ _
  |exact Zs _ _ _
  |exact QF _
  |exact Q2 _ _ _ _
  |exact QQ _
  |exact Zt _
  |exact ZA _
  |exact ZC _
  |exact Zf _
  |exact Zy _
  |exact ZB _ _
  |apply Qb
  |intro _
  |apply Qn
  |split
  |dsimp only
theorem Je (x:Value)(y:Nat)(c:BoundsCode):D T F F' LO X (Instr.sliceBound x y c):=by
 unfold Instr.sliceBound
 repeat' first
  |exact Qd _
  |exact Qf _
  |exact Qv _
  |exact QG _
  |exact QR _
  |exact QT _
  |exact Za _
  |exact QU _ _
  |exact QV _ _ _
  |exact Q9 _
  |exact Ze _
  |exact Zh _
  |exact Zd _
  |exact Zm _
  |exact Zr _ _
  |exact Zo _ _ _
  |exact Zj _ _
  |exact ZD _ _ _
  |exact Zn _ _
  |exact Zx _ _
  |exact Zs _ _ _
  |exact QF _
  |exact Q2 _ _ _ _
  |exact QQ _
  |exact Zt _
  |exact ZA _
  |exact ZC _
  |exact Zf _
  |exact Zy _
  |exact ZB _ _
  |apply Qb
  |intro _
  |apply Qn
  |split
  |dsimp only
theorem Jm (b:Bool)(l c:Nat)(x y z:Option Value):D T F F' LO X (Instr.sliceBounds b l c x y z):=by
 unfold Instr.sliceBounds
 repeat' first
  |exact Qd _
  |exact Qf _
  |exact Qv _
  |exact QG _
  |exact QR _
  |exact QT _
  |exact Za _
  |exact QU _ _
  |exact QV _ _ _
  |exact Q9 _
  |exact Ze _
  |exact Zh _
  |exact Zd _
  |exact Zm _
  |exact Zr _ _
  |exact Zo _ _ _
  |exact Zj _ _
  |exact ZD _ _ _
  |exact Zn _ _
  |exact Zx _ _
  |exact Zs _ _ _
  |exact QF _
  |exact Q2 _ _ _ _
  |exact QQ _
  |exact Zt _
  |exact ZA _
  |exact ZC _
  |exact Zf _
  |exact Zy _
  |exact ZB _ _
  |exact Je _ _ _
  |apply Qb
  |intro _
  |apply Qn
  |split
  |dsimp only
theorem QcS (t:TypeId)(v:Value)(x y z:Option Value):D T F F' LO X (Instr.slice t v x y z):=by
 unfold Instr.slice
 repeat' first
  |exact Qd _
  |exact Qf _
  |exact Qv _
  |exact QG _
  |exact QR _
  |exact QT _
  |exact Za _
  |exact QU _ _
  |exact QV _ _ _
  |exact Q9 _
  |exact Ze _
  |exact Zh _
  |exact Zd _
  |exact Zm _
  |exact Zr _ _
  |exact Zo _ _ _
  |exact Zj _ _
  |exact ZD _ _ _
  |exact Zn _ _
  |exact Zx _ _
  |exact Zs _ _ _
  |exact QF _
  |exact Q2 _ _ _ _
  |exact QQ _
  |exact Zt _
  |exact ZA _
  |exact ZC _
  |exact Zf _
  |exact Zy _
  |exact ZB _ _
  |exact Je _ _ _
  |exact Jm _ _ _ _ _ _
  |apply Qb
  |intro _
  |apply Qn
  |split
  |dsimp only
theorem QcT (t:TypeId)(v:Value)(x y z:Option Value):D T F F' LO X (Instr.sliceAt t v x y z):=by
 unfold Instr.sliceAt
 refine Qb (Qv _) fun _=>?_
 split
 ·repeat' first
   |exact Qd _
   |exact Qf _
   |exact Qv _
   |exact QG _
   |exact QR _
   |exact QT _
   |exact Za _
   |exact QU _ _
   |exact QV _ _ _
   |exact Q9 _
   |exact Ze _
   |exact Zh _
   |exact Zd _
   |exact Zm _
   |exact Zr _ _
   |exact Zo _ _ _
   |exact Zj _ _
   |exact ZD _ _ _
   |exact Zn _ _
   |exact Zx _ _
   |exact Zs _ _ _
   |exact QF _
   |exact Q2 _ _ _ _
   |exact QQ _
   |exact Zt _
   |exact ZA _
   |exact ZC _
   |exact Zf _
   |exact Zy _
   |exact ZB _ _
   |exact Je _ _ _
   |exact Jm _ _ _ _ _ _
   |apply Qb
   |intro _
   |apply Qn
   |split
   |dsimp only
 ·exact QcS _ _ _ _ _
theorem Qce (e:TypeId)(h:Bool)(v:Value):D T F F' LO X (Instr.alloc e h v):=by
 unfold Instr.alloc
 repeat' first
  |exact Qd _
  |exact Qf _
  |exact Qv _
  |exact QG _
  |exact QR _
  |exact QT _
  |exact Za _
  |exact QU _ _
  |exact QV _ _ _
  |exact Q9 _
  |exact Ze _
  |exact Zh _
  |exact Zd _
  |exact Zm _
  |exact Zr _ _
  |exact Zo _ _ _
  |exact Zj _ _
  |exact ZD _ _ _
  |exact Zn _ _
  |exact Zx _ _
  |exact Zs _ _ _
  |exact QF _
  |exact Q2 _ _ _ _
  |exact QQ _
  |exact Zt _
  |exact ZA _
  |exact ZC _
  |exact Zf _
  |exact Zy _
  |exact ZB _ _
  |exact Je _ _ _
  |exact Jm _ _ _ _ _ _
  |apply Qb
  |intro _
  |apply Qn
  |split
  |dsimp only
theorem Qci (e:TypeId)(v:Value):D T F F' LO X (Instr.box e v):=by
 unfold Instr.box
 repeat' first
  |exact Qd _
  |exact Qf _
  |exact Qv _
  |exact QG _
  |exact QR _
  |exact QT _
  |exact Za _
  |exact QU _ _
  |exact QV _ _ _
  |exact Q9 _
  |exact Ze _
  |exact Zh _
  |exact Zd _
  |exact Zm _
  |exact Zr _ _
  |exact Zo _ _ _
  |exact Zj _ _
  |exact ZD _ _ _
  |exact Zn _ _
  |exact Zx _ _
  |exact Zs _ _ _
  |exact QF _
  |exact Q2 _ _ _ _
  |exact QQ _
  |exact Zt _
  |exact ZA _
  |exact ZC _
  |exact Zf _
  |exact Zy _
  |exact ZB _ _
  |exact Je _ _ _
  |exact Jm _ _ _ _ _ _
  |apply Qb
  |intro _
  |apply Qn
  |split
  |dsimp only
theorem QcH (t:TypeId)(v:Value):D T F F' LO X (Instr.makeInterface t v):=by
 unfold Instr.makeInterface
 repeat' first
  |exact Qd _
  |exact Qf _
  |exact Qv _
  |exact QG _
  |exact QR _
  |exact QT _
  |exact Za _
  |exact QU _ _
  |exact QV _ _ _
  |exact Q9 _
  |exact Ze _
  |exact Zh _
  |exact Zd _
  |exact Zm _
  |exact Zr _ _
  |exact Zo _ _ _
  |exact Zj _ _
  |exact ZD _ _ _
  |exact Zn _ _
  |exact Zx _ _
  |exact Zs _ _ _
  |exact QF _
  |exact Q2 _ _ _ _
  |exact QQ _
  |exact Zt _
  |exact ZA _
  |exact ZC _
  |exact Zf _
  |exact Zy _
  |exact ZB _ _
  |exact Je _ _ _
  |exact Jm _ _ _ _ _ _
  |apply Qb
  |intro _
  |apply Qn
  |split
  |dsimp only
theorem QcI (t:TypeId)(l c:Value):D T F F' LO X (Instr.makeSlice t l c):=by
 unfold Instr.makeSlice
 repeat' first
  |exact Qd _
  |exact Qf _
  |exact Qv _
  |exact QG _
  |exact QR _
  |exact QT _
  |exact Za _
  |exact QU _ _
  |exact QV _ _ _
  |exact Q9 _
  |exact Ze _
  |exact Zh _
  |exact Zd _
  |exact Zm _
  |exact Zr _ _
  |exact Zo _ _ _
  |exact Zj _ _
  |exact ZD _ _ _
  |exact Zn _ _
  |exact Zx _ _
  |exact Zs _ _ _
  |exact QF _
  |exact Q2 _ _ _ _
  |exact QQ _
  |exact Zt _
  |exact ZA _
  |exact ZC _
  |exact Zf _
  |exact Zy _
  |exact ZB _ _
  |exact Je _ _ _
  |exact Jm _ _ _ _ _ _
  |apply Qb
  |intro _
  |apply Qn
  |split
  |dsimp only
theorem Qcv (t:TypeId)(v:Value)(f:Nat):D T F F' LO X (Instr.field t v f):=by
 unfold Instr.field
 repeat' first
  |exact Qd _
  |exact Qf _
  |exact Qv _
  |exact QG _
  |exact QR _
  |exact QT _
  |exact Za _
  |exact QU _ _
  |exact QV _ _ _
  |exact Q9 _
  |exact Ze _
  |exact Zh _
  |exact Zd _
  |exact Zm _
  |exact Zr _ _
  |exact Zo _ _ _
  |exact Zj _ _
  |exact ZD _ _ _
  |exact Zn _ _
  |exact Zx _ _
  |exact Zs _ _ _
  |exact QF _
  |exact Q2 _ _ _ _
  |exact QQ _
  |exact Zt _
  |exact ZA _
  |exact ZC _
  |exact Zf _
  |exact Zy _
  |exact ZB _ _
  |exact Je _ _ _
  |exact Jm _ _ _ _ _ _
  |apply Qb
  |intro _
  |apply Qn
  |split
  |dsimp only
theorem QcA (t:TypeId)(v i:Value):D T F F' LO X (Instr.index t v i):=by
 unfold Instr.index
 repeat' first
  |exact Qd _
  |exact Qf _
  |exact Qv _
  |exact QG _
  |exact QR _
  |exact QT _
  |exact Za _
  |exact QU _ _
  |exact QV _ _ _
  |exact Q9 _
  |exact Ze _
  |exact Zh _
  |exact Zd _
  |exact Zm _
  |exact Zr _ _
  |exact Zo _ _ _
  |exact Zj _ _
  |exact ZD _ _ _
  |exact Zn _ _
  |exact Zx _ _
  |exact Zs _ _ _
  |exact QF _
  |exact Q2 _ _ _ _
  |exact QQ _
  |exact Zt _
  |exact ZA _
  |exact ZC _
  |exact Zf _
  |exact Zy _
  |exact ZB _ _
  |exact Je _ _ _
  |exact Jm _ _ _ _ _ _
  |apply Qb
  |intro _
  |apply Qn
  |split
  |dsimp only
theorem Qcu (v:Value)(i:Nat):D T F F' LO X (Instr.extract v i):=by
 unfold Instr.extract
 repeat' first
  |exact Qd _
  |exact Qf _
  |exact Qv _
  |exact QG _
  |exact QR _
  |exact QT _
  |exact Za _
  |exact QU _ _
  |exact QV _ _ _
  |exact Q9 _
  |exact Ze _
  |exact Zh _
  |exact Zd _
  |exact Zm _
  |exact Zr _ _
  |exact Zo _ _ _
  |exact Zj _ _
  |exact ZD _ _ _
  |exact Zn _ _
  |exact Zx _ _
  |exact Zs _ _ _
  |exact QF _
  |exact Q2 _ _ _ _
  |exact QQ _
  |exact Zt _
  |exact ZA _
  |exact ZC _
  |exact Zf _
  |exact Zy _
  |exact ZB _ _
  |exact Je _ _ _
  |exact Jm _ _ _ _ _ _
  |apply Qb
  |intro _
  |apply Qn
  |split
  |dsimp only
theorem QcJ {s:Sem α}{f:α→β}(h:D T F F' LO X s):D T F F' LO X (f<$>s):=(Qb h fun a=>Qd (f a):D T F F' LO X (s>>= fun a=>pure (f a)))
theorem PR {γ δ:Type}(f:γ→Sem δ)(hf:∀x,D T F F' LO X (f x))(l:Array γ):D T F F' LO X (l.mapM f):=by
 rw[Array.mapM_eq_mapM_toList]
 refine QcJ ?_
 generalize l.toList=k
 induction k with
 |nil=>exact Qd _
 |cons x l ih=>
  rw[List.mapM_cons]
  exact Qb (hf x) fun _=>Qb ih fun _=>Qd _
end
end Co
end Go.Proofs.YtcpnkpogebjieaaGreat
