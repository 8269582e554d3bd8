/- A piece of a run, carried out in two worlds and under two tables of functions at once: -/
import Derived.Conc.Beside
import Derived.Conc.Events
open Nat renaming le_refl→QhR,le_trans→QhS,add_comm→QhT,lt_of_lt_of_le→QhU
open Go.World renaming setCell→QhV,farStore→QhX
open Option renaming map_some→QhW
open Array renaming getElem?_modify→QhY,getElem?_push→QhZ,getElem?_setIfInBounds→Qh0
namespace Go.Proofs.YtcpnkpogebjieaaGreat
namespace Co
open Go.Conc
def rw {α:Type}:Result α→World
 | .ok _ w=>w
 | .halt _ w=>w
theorem Qcg {α:Type}(a:Ask α)(w:World):w.drawn≤(w.ask a).2.drawn∧(w.ask a).2.tape=w.tape:=by
 induction a generalizing w with
 |done a=>exact⟨QhR _,rfl⟩
 |ask what range k ih=>
  simp only[World.ask];split
  ·exact ih 0 w
  ·have:=ih (Question.cut (.extern what range) (w.tape w.drawn (.extern what range))) {w with drawn:=w.drawn+1};exact⟨QhS (Nat.le_succ _) this.1,this.2⟩
theorem Qg0 (c:Sys)(w:World):w.drawn≤(w.sys c).2.drawn∧(w.sys c).2.tape=w.tape:=by
 have h:=Qcg (Kernel.perform c w.os) w;unfold World.sys;generalize w.ask (Kernel.perform c w.os)=x at h;obtain⟨⟨r,os⟩,w1⟩:=x
 cases r<;>first|exact⟨QhR _,rfl⟩|exact h
theorem QhA {P:Program}{w w1:World}{at_ k:Addr}{u:TypeId}{v:Value}{b:Bool}{l:List Addr}(h:w.viewStore P at_ u k v b=.ok (w1,l)):w1.drawn=w.drawn∧w1.tape=w.tape:=by
 unfold World.viewStore at h;simp only[bind,Except.bind,pure,Except.pure]at h
 repeat' split at h
 all_goals first|(cases h;done)|(simp only[Except.ok.injEq,Prod.mk.injEq]at h;obtain⟨rfl,_⟩:=h;exact⟨rfl,rfl⟩)
theorem OW {P:Program}{w w1:World}{a:Addr}{v:Value}{b:Bool}{l:List Addr}(h:w.farStore P a v b=.ok (w1,l)):w1.drawn=w.drawn∧w1.tape=w.tape:=by
 unfold QhX at h;split at h
 ·split at h
  ·rename_i hv;simp only[Except.ok.injEq]at h;subst h;exact QhA hv
  ·cases h
 ·cases h
theorem J2 {α:Type}(P:Program)(s:Sem α)(w:World):w.drawn≤(rw (s.run P w)).drawn∧(rw (s.run P w)).tape=w.tape:=by
 induction s generalizing w with
 |pure a=>exact⟨QhR _,rfl⟩
 |halt h=>exact⟨QhR _,rfl⟩
 |load m a k ih=>
  simp only[Sem.run];split
  ·exact ih _ w
  ·split
   ·exact ih _ w
   ·exact⟨QhR _,rfl⟩
 |store m a v k ih=>
  have key:∀w1:World,w1.drawn=w.drawn→w1.tape=w.tape→w.drawn≤(rw (k.run P w1)).drawn∧(rw (k.run P w1)).tape=w.tape:=fun w1 h1 h2=>h1▸h2▸ih w1
  cases v<;>simp only[Sem.run]<;>first
   |exact⟨QhR _,rfl⟩
   |(split
     ·split
      ·exact⟨QhR _,rfl⟩
      ·exact key _ rfl rfl
     ·split
      ·rename_i h;exact key _ (OW h).1 (OW h).2
      ·exact⟨QhR _,rfl⟩)
 |new o k ih=>exact ih w.heap.size {w with heap:=w.heap.push o}
 |shape r k ih=>exact ih _ _
 |freeze a n k ih=>
  simp only[Sem.run];have:(w.freeze a n).drawn=w.drawn∧(w.freeze a n).tape=w.tape:=by unfold World.freeze;split<;>exact⟨rfl,rfl⟩
  exact this.1▸this.2▸ih _
 |frozen a k ih=>exact ih _ _
 |getObj r k ih=>
  simp only[Sem.run];split
  ·exact⟨QhR _,rfl⟩
  ·exact ih _ _
  ·exact⟨QhR _,rfl⟩
 |setObj r o k ih=>
  simp only[Sem.run];split
  ·exact⟨QhR _,rfl⟩
  ·exact ih {w with heap:=w.heap.setIfInBounds r o}
  ·exact⟨QhR _,rfl⟩
 |choose q k ih=>
  simp only[Sem.run];split
  ·exact ih _ _
  ·have:=ih (q.cut (w.tape w.drawn q)) {w with drawn:=w.drawn+1};exact⟨QhS (Nat.le_succ _) this.1,this.2⟩
 |sys c k ih=>
  simp only[Sem.run];have h1:=Qg0 c w;have h2:=ih (w.sys c).1 (w.sys c).2;exact⟨QhS h1.1 h2.1,h2.2.trans h1.2⟩
 |program k ih=>exact ih _ _
 |mark m k ih=>exact ih _
/-! ### Emptied blocks-/
def emO (X:Nat→Bool)(r:Nat)(o:Obj):Obj:=
 if X r then
  match o with
  | .cells _ e fz=>.cells #[] e fz
  | .loop _=>.deferred none
  | .deferred _=>.deferred none
  | .view _ t=>.view ⟨r,0,none⟩ t
  | .pending _ _=>.deferred none
  |o=>o
 else o
structure Em (X:Nat→Bool) (w w':World):Prop where
 heap:∀r,w'.heap[r]? =(w.heap[r]?).map (emO X r)
 size:w'.heap.size=w.heap.size
 os:w'.os=w.os
 out:w'.output=w.output
structure QB (X:Nat→Bool) (w w1:World):Prop where
 size:w.heap.size≤w1.heap.size
 ob:∀r,X r=true→w1.heap[r]? =w.heap[r]?
theorem QB.refl (X:Nat→Bool)(w:World):QB X w w:=⟨QhR _,fun _ _=>rfl⟩
theorem QB.trans {X:Nat→Bool}{a b c:World}(h:QB X a b)(k:QB X b c):QB X a c:=
 ⟨QhS h.size k.size,fun r hr=>(k.ob r hr).trans (h.ob r hr)⟩
def Xob:Obj→Prop
 | .cells _ _ _| .loop _| .deferred _| .view _ _| .pending _ _=>True
 |_=>False
structure XOk (X:Nat→Bool) (w:World):Prop where
 lt:∀r,X r=true→r<w.heap.size
 ob:∀r o,X r=true→w.heap[r]? =some o→Xob o
theorem XOk.kept {X:Nat→Bool}{w w1:World}(h:XOk X w)(k:QB X w w1):XOk X w1:=⟨fun r hr=>QhU (h.lt r hr) k.size,fun r o hr ho=>h.ob r o hr ((k.ob r hr)▸ho)⟩
def WOk (LO:Loop→Prop)(w':World):Prop:=∀(r:Nat) (o:Obj),w'.heap[r]? =some o→match o with
 | .view a _=>a=⟨r,0,none⟩
 | .pending _ _=>False
 | .loop l=>LO l
 | .deferred (some ds)=>ds=[]
 |_=>True
def Yx (LO:Loop→Prop):Obj→Prop
 | .view _ _| .pending _ _=>False
 | .loop l=>LO l
 | .deferred (some ds)=>ds=[]
 |_=>True
def Ev (X:Nat→Bool)(B:Nat)(e:Event):Prop:=
 match e.loc with
 | .cell a=>X a.block=false∧a.block<B
 | .obj r=>r<B
 | .mark m=>m=.noRoom
 |_=>False
structure Dr (w w' w1 w1':World):Prop where
 le:w.drawn≤w1.drawn
 eq:w1.drawn+w'.drawn=w1'.drawn+w.drawn
 tp:w1.tape=w.tape
 tp':w1'.tape=w'.tape
theorem Dr.trans {w w' w1 w1' w2 w2':World}(h:Dr w w' w1 w1')(k:Dr w1 w1' w2 w2'):Dr w w' w2 w2':=
 ⟨QhS h.le k.le,by have:=h.eq;have:=k.eq;omega,k.tp.trans h.tp,k.tp'.trans h.tp'⟩
def HOk:Halt→Prop
 | .panic _| .stuck _=>True
 | .unsupported (.initOrder _)=>False
 | .unsupported _=>True
 |_=>False
def Tr (P P':Program)(LO:Loop→Prop)(X:Nat→Bool){α:Type}(Q:α→Prop)(s' s:Sem α):Prop:=
 ∀(w w':World),Em X w w'→XOk X w→WOk LO w'→(∀k,w.drawn+k<(rw (s.run P w)).drawn→w'.tape (w'.drawn+k)=w.tape (w.drawn+k))→
  (∀a w1',s'.run P' w'=.ok a w1'→∃w1,s.run P w=.ok a w1∧Em X w1 w1'∧QB X w w1∧WOk LO w1'∧Dr w w' w1 w1'∧Q a∧
    ∀B,w1.heap.size≤B→∀es:Array Event,(∀e∈es,Ev X B e)→∀e∈s.events P w es,Ev X B e)∧
  (∀h w1',s'.run P' w'=.halt h w1'→HOk h∧WOk LO w1')
section
variable {P P':Program} {LO:Loop→Prop} {X:Nat→Bool} {α β:Type}
theorem Q7 {Q:α→Prop}(a:α)(h:Q a):Tr P P' LO X Q (pure a) (pure a):=by
 intro w w' hE hX hW _;refine⟨fun b w1' hr=>?_,fun h w1' hr=>by cases hr⟩
 cases hr
 exact⟨w,rfl,hE,QB.refl X w,hW,⟨QhR _,QhT _ _,rfl,rfl⟩,h,fun B _ es hes e he=>hes e he⟩
theorem Z0 {Q:α→Prop}(h:Halt)(s:Sem α)(hh:HOk h:=by exact True.intro):Tr P P' LO X Q (.halt h) s:=by
 intro w w' hE hX hW _;exact⟨fun b w1' hr=>(by cases hr),fun h w1' hr=>by cases hr;exact⟨hh,hW⟩⟩
theorem Qbt {Q R:α→Prop}{s' s:Sem α}(h:Tr P P' LO X Q s' s)(hQ:∀a,Q a→R a):Tr P P' LO X R s' s:=by
 intro w w' hE hX hW hT;obtain⟨h0,h00⟩:=h w w' hE hX hW hT;refine⟨fun a w1' hr=>?_,h00⟩;obtain⟨w1,h1,h2,h3,h4,h5,h6,h7⟩:=h0 a w1' hr;exact⟨w1,h1,h2,h3,h4,h5,hQ a h6,h7⟩
theorem Zs {Q:α→Prop}{R:β→Prop}{s' s:Sem α}{f' f:α→Sem β}(hs:Tr P P' LO X Q s' s)(hf:∀a,Q a→Tr P P' LO X R (f' a) (f a)):Tr P P' LO X R (s'>>= f') (s>>= f):=by
 intro w w' hE hX hW hT;have hb:(s>>= f).run P w=(s.run P w).andThen fun a w=>(f a).run P w:=Sem.run_bind P w s f;have hb':(s'>>= f').run P' w'=(s'.run P' w').andThen fun a w=>(f' a).run P' w:=Sem.run_bind P' w' s' f'
 have hm:(rw (s.run P w)).drawn≤(rw ((s>>= f).run P w)).drawn:=by
  rw[hb]
  cases hq:s.run P w with
  |halt h w1=>exact QhR _
  |ok a w1=>exact(J2 P (f a) w1).1
 obtain⟨hs1,hs2⟩:=hs w w' hE hX hW (fun k hk=>hT k (QhU hk hm))
 cases h1:s'.run P' w' with
 |halt h w1'=>
  rw[hb',h1];exact⟨fun b w2' hr=>(by cases hr),fun h2 w2' hr=>by cases hr;exact hs2 _ _ h1⟩
 |ok a w1'=>
  rw[hb',h1];obtain⟨w1,e1,e2,e3,e4,e5,e6,e7⟩:=hs1 a w1' h1;have hb1:(s>>= f).run P w=(f a).run P w1:=by rw[hb,e1];rfl
  have ht:=(J2 P s w).2;have ht':=(J2 P' s' w').2;have hd:=(J2 P s w).1;rw[e1]at ht hd;rw[h1]at ht';simp only[rw]at ht ht' hd
  obtain⟨hf1,hf2⟩:=hf a e6 w1 w1' e2 (hX.kept e3) e4 (fun k hk=>by
   rw[←hb1]at hk;have:=hT (w1.drawn-w.drawn+k) (by omega);have e52:=e5.eq;rw[ht,ht',show w1'.drawn+k=w'.drawn+(w1.drawn-w.drawn+k)by omega,this];congr 1
   omega)
  refine⟨fun b w2' hr=>?_,fun h w2' hr=>hf2 h w2' hr⟩;obtain⟨w2,g1,g2,g3,g4,g5,g6,g7⟩:=hf1 b w2' hr;refine⟨w2,by rw[hb1,g1],g2,e3.trans g3,g4,Dr.trans e5 g5,g6,fun B hB es hes e he=>?_⟩;rw[Sem.events_bind,e1,Result.evThen_ok]at he;exact g7 B hB _ (fun x hx=>e7 B (QhS g3.size hB) es hes x hx) e he
end
section
variable {X:Nat→Bool} {w w':World}
theorem YF {r:Nat}{o:Obj}(h:X r=false):emO X r o=o:=by simp[emO,h]
theorem Em.cell (h:Em X w w'){a:Addr}{v:Value}(hc:w'.cell? a=some v):X a.block=false∧w.cell? a=some v∧a.block<w.heap.size∧w'.frozen? a=w.frozen? a:=by
 have hh:=h.heap a.block;unfold World.cell? at hc;unfold World.cell? World.frozen?
 cases hw:w.heap[a.block]? with
 |none=>rw[hw]at hh;simp only[Option.map_none]at hh;rw[hh]at hc;cases hc
 |some o=>
  rw[hw]at hh;have hlt:a.block<w.heap.size:=(Array.getElem?_eq_some_iff.1 hw).1
  cases hX:X a.block with
  |false=>
   simp only[QhW,YF hX]at hh;rw[hh]at hc⊢;exact⟨rfl,hc,hlt,rfl⟩
  |true=>
   simp only[QhW,emO,hX,if_true]at hh;rw[hh]at hc
   cases o<;>simp at hc
theorem Qa2 {P:Program}{r:Nat}{t u:TypeId}{k:Addr}{b:Bool}(hv:w.heap[r]? =some (.view ⟨r,0,none⟩ t))(y:Array Value×TypeId×(Nat×Nat)×Nat×Value×List (Nat×Nat×List UInt8)):
 w.seen P ⟨r,0,none⟩ u k b≠.ok y:=by
 intro h;unfold World.seen at h;simp only[bind,Except.bind,hv]at h
 repeat' split at h
 all_goals first|cases h|simp_all
theorem OY {LO:Loop→Prop}(hW:WOk LO w'){a:Addr}(P:Program)(b:Bool):(∀v,w'.farLoad P a b≠.ok v)∧∀v x,w'.farStore P a v b≠.ok x:=by
 have key:∀at_ u,w'.heap[a.block]? =some (.view at_ u)→at_=⟨a.block,0,none⟩:=fun at_ u h=>hW _ _ h;constructor
 ·intro v h;unfold World.farLoad at h;split at h
  ·rename_i at_ u hv;have:=key _ _ hv;subst this;unfold World.viewLoad at h
   cases hs:w'.seen P ⟨a.block,0,none⟩ u a b with
   |error e=>simp[hs,bind,Except.bind]at h
   |ok y=>exact Qa2 hv y hs
  ·cases h
 ·intro v x h;unfold QhX at h;split at h
  ·rename_i at_ u hv;have:=key _ _ hv;subst this;unfold World.viewStore at h
   cases hs:w'.seen P ⟨a.block,0,none⟩ u a b with
   |error e=>
    simp only[hs,bind,Except.bind]at h
    cases ht:tight P P.depth u<;>simp[ht,MonadExcept.throw,throwThe,MonadExceptOf.throw]at h
   |ok y=>exact Qa2 hv y hs
  ·cases h
theorem OX {LO:Loop→Prop}(hW:WOk LO w'){a:Addr}(P:Program)(b:Bool):(∀h,w'.farLoad P a b=.error h→HOk h)∧∀v h,w'.farStore P a v b=.error h→HOk h:=by
 have key:∀s,HOk (w'.noCell a s):=by
  intro s;unfold World.noCell;split
  ·rename_i hb;exact(hW _ _ hb).elim
  ·trivial
  ·trivial
 constructor
 ·intro h he;unfold World.farLoad at he;split at he
  ·split at he
   ·cases he
   ·cases he;trivial
  ·cases he;exact key _
 ·intro v h he;unfold QhX at he;split at he
  ·split at he
   ·cases he
   ·cases he;trivial
  ·cases he;exact key _
theorem Em.set (h:Em X w w'){a:Addr}(v:Value)(hX:X a.block=false):Em X (w.setCell a v) (w'.setCell a v):=by
 refine⟨fun r=>?_,by simp[QhV,h.size],h.os,h.out⟩;simp only[QhV,QhY];split
 ·rename_i hr;subst hr;rw[h.heap]
  cases w.heap[a.block]? with
  |none=>rfl
  |some o=>simp[YF hX]
 ·exact h.heap r
theorem QB.set {a:Addr}(v:Value)(hX:X a.block=false):QB X w (w.setCell a v):=by
 refine⟨by simp[QhV],fun r hr=>?_⟩;simp only[QhV,QhY];rw[if_neg];intro he;rw[he,hr]at hX
 cases hX
theorem WOk.set {LO:Loop→Prop}(h:WOk LO w)(a:Addr)(v:Value):WOk LO (w.setCell a v):=by
 intro r o ho;simp only[QhV,QhY]at ho;split at ho
 ·cases hb:w.heap[r]? with
  |none=>rw[hb]at ho;cases ho
  |some o0=>
   rw[hb]at ho;simp only[QhW,Option.some.injEq]at ho;have:=h r o0 hb
   cases o0<;>simp only at ho<;>subst ho<;>first|trivial|exact this
 ·exact h r o ho
theorem Em.push (h:Em X w w')(hX:XOk X w)(o:Obj):Em X {w with heap:=w.heap.push o} {w' with heap:=w'.heap.push o}:=by
 refine⟨fun r=>?_,by simp[h.size],h.os,h.out⟩;simp only[QhZ];rw[h.size];split
 ·rename_i hr
  have:X r=false:=by
   cases hx:X r with
   |false=>rfl
   |true=>exact absurd (hX.lt r hx) (by omega)
  simp[YF this]
 ·exact h.heap r
theorem QB.push (hX:XOk X w)(o:Obj):QB X w {w with heap:=w.heap.push o}:=by
 refine⟨by simp,fun r hr=>?_⟩;have:=hX.lt r hr;simp only[QhZ];rw[if_neg (by omega)]
theorem WOk.push {LO:Loop→Prop}(h:WOk LO w){o:Obj}(ho:Yx LO o):WOk LO {w with heap:=w.heap.push o}:=by
 intro r p hp;simp only[QhZ]at hp;split at hp
 ·cases hp
  cases o with
  |deferred c=>cases c<;>first|exact ho|trivial
  |view _ _=>exact ho.elim
  |pending _ _=>exact ho.elim
  |loop _=>exact ho
  |_=>trivial
 ·exact h r p hp
theorem Em.put (h:Em X w w'){r0:Nat}(o:Obj)(hX:X r0=false):Em X {w with heap:=w.heap.setIfInBounds r0 o} {w' with heap:=w'.heap.setIfInBounds r0 o}:=by
 refine⟨fun r=>?_,by simp[h.size],h.os,h.out⟩;simp only[Qh0];rw[h.size];split
 ·split
  ·rename_i hr _;subst hr;simp[YF hX]
  ·rfl
 ·exact h.heap r
theorem QB.put {r0:Nat}(o:Obj)(hX:X r0=false):QB X w {w with heap:=w.heap.setIfInBounds r0 o}:=by
 refine⟨by simp,fun r hr=>?_⟩;simp only[Qh0];rw[if_neg];intro he;rw[he,hr]at hX
 cases hX
theorem WOk.put {LO:Loop→Prop}(h:WOk LO w){r0:Nat}{o:Obj}(ho:Yx LO o):WOk LO {w with heap:=w.heap.setIfInBounds r0 o}:=by
 intro r p hp;simp only[Qh0]at hp;split at hp
 ·split at hp
  ·cases hp
   cases o with
   |deferred c=>cases c<;>first|exact ho|trivial
   |view _ _=>exact ho.elim
   |pending _ _=>exact ho.elim
   |loop _=>exact ho
   |_=>trivial
  ·cases hp
 ·exact h r p hp
theorem Em.obj (h:Em X w w'){r:Nat}{o:Obj}(ho:w'.heap[r]? =some o):∃o0,w.heap[r]? =some o0∧o=emO X r o0∧r<w.heap.size:=by
 have hh:=h.heap r;rw[ho]at hh
 cases hw:w.heap[r]? with
 |none=>rw[hw]at hh;cases hh
 |some o0=>rw[hw]at hh;exact⟨o0,rfl,Option.some.inj hh,(Array.getElem?_eq_some_iff.1 hw).1⟩
end
section
variable {P P':Program} {LO:Loop→Prop} {X:Nat→Bool} {α β:Type}
theorem Qhu {Q:Value→Prop}(a:Addr)(m:Mode)(hQ:∀v,Q v):Tr P P' LO X Q (load a m) (load a m):=by
 intro w w' hE hX hW _
 cases hc:w'.cell? a with
 |some v0=>
  have e:(load a m).run P' w'=.ok v0 w':=by simp[load,Sem.run,hc]
  rw[e];refine⟨fun v w1' hr=>?_,fun h w1' hr=>by cases hr⟩
  cases hr
  obtain⟨h1,h2,h3,_⟩:=hE.cell hc;refine⟨w,by simp[load,Sem.run,h2],hE,QB.refl X w,hW,⟨QhR _,QhT _ _,rfl,rfl⟩,hQ _,fun B hB es hes e he=>?_⟩;simp only[load,Sem.events,Sem.runT,h2]at he;rcases Array.mem_push.1 he with he|rfl
  ·exact hes e he
  ·exact⟨h1,QhU h3 hB⟩
 |none=>
  cases hf:w'.farLoad P' a (m == .atomic)with
  |ok v=>exact absurd hf ((OY hW P' _).1 _)
  |error x=>
   have e:(load a m).run P' w'=.halt x w':=by simp[load,Sem.run,hc,hf]
   rw[e];exact⟨fun v w1' hr=>(by cases hr),fun h w1' hr=>by cases hr;exact⟨(OX hW P' _).1 _ hf,hW⟩⟩
theorem Qhw {Q:Unit→Prop}(a:Addr)(v:Value)(m:Mode)(hQ:Q ()):Tr P P' LO X Q (store a v m) (store a v m):=by
 intro w w' hE hX hW _
 have bad:∀v:Value,(store a v m).run P' w'=.halt (.stuck "store: not the value of one cell") w'→(∀u w1',(store a v m).run P' w'=.ok u w1'→∃w1,(store a v m).run P w=.ok u w1∧Em X w1 w1'∧QB X w w1∧WOk LO w1'∧Dr w w' w1 w1'∧Q u∧
  ∀B,w1.heap.size≤B→∀es:Array Event,(∀e∈es,Ev X B e)→∀e∈(store a v m).events P w es,Ev X B e)∧∀h w1',(store a v m).run P' w'=.halt h w1'→HOk h∧WOk LO w1':=by
  intro v e;rw[e];exact⟨fun v w1' hr=>(by cases hr),fun h w1' hr=>by cases hr;exact⟨trivial,hW⟩⟩
 have good:∀v:Value,(∀w0 Q0,(store a v m).run Q0 w0=match w0.cell? a with
  |some _=>if w0.frozen? a then .halt (.unsupported (.unsafePointer "a write to bytes that a string shares")) w0 else .ok () (w0.setCell a v)
  |none=>match w0.farStore Q0 a v (m == .atomic)with
   | .ok (w1,_)=>.ok () w1
   | .error h=>.halt h w0)→(∀w0 x es,w0.cell? a=some x→w0.frozen? a=false→(store a v m).events P w0 es=es.push ⟨.cell a,true,m == .atomic⟩)→
  (∀u w1',(store a v m).run P' w'=.ok u w1'→∃w1,(store a v m).run P w=.ok u w1∧Em X w1 w1'∧QB X w w1∧WOk LO w1'∧Dr w w' w1 w1'∧Q u∧
  ∀B,w1.heap.size≤B→∀es:Array Event,(∀e∈es,Ev X B e)→∀e∈(store a v m).events P w es,Ev X B e)∧∀h w1',(store a v m).run P' w'=.halt h w1'→HOk h∧WOk LO w1':=by
  intro v hrun hev;rw[hrun w' P']
  cases hc:w'.cell? a with
  |some x=>
   obtain⟨h1,h2,h3,h4⟩:=hE.cell hc
   cases hf:w'.frozen? a with
   |true=>
    simp only[if_true];exact⟨fun v w1' hr=>(by cases hr),fun h w1' hr=>by cases hr;exact⟨trivial,hW⟩⟩
   |false=>
    simp only[Bool.false_eq_true,if_false];refine⟨fun u w1' hr=>?_,fun h w1' hr=>by cases hr⟩
    cases hr
    have hf':w.frozen? a=false:=by rw[←h4];exact hf
    refine⟨w.setCell a v,by rw[hrun w P];simp[h2,hf'],hE.set v h1,QB.set v h1,hW.set a v,⟨QhR _,QhT _ _,rfl,rfl⟩,hQ,fun B hB es hes e he=>?_⟩;rw[hev w x es h2 hf']at he;rcases Array.mem_push.1 he with he|rfl
    ·exact hes e he
    ·exact⟨h1,QhU h3 (QhS (by simp[QhV]) hB)⟩
  |none=>
   cases hf:w'.farStore P' a v (m == .atomic)with
   |ok x=>exact absurd hf ((OY hW P' _).2 _ _)
   |error x=>exact⟨fun v w1' hr=>(by cases hr),fun h w1' hr=>by cases hr;exact⟨(OX hW P' _).2 _ _ hf,hW⟩⟩
 cases v<;>first
  |exact bad _ rfl
  |exact good _ (fun w0 Q0=>by
    simp only[store,Sem.run]
    cases w0.cell? a with
    |some x=>rfl
    |none=>cases w0.farStore Q0 a _ (m == .atomic)<;>rfl) (fun w0 x es hx hf=>by simp[store,Sem.events,Sem.runT,hx,hf])
theorem UC {Q:Nat→Prop}{o:Obj}(ho:Yx LO o)(hQ:∀r,X r=false→Q r):Tr P P' LO X Q (newObj o) (newObj o):=by
 intro w w' hE hX hW _;refine⟨fun v w1' hr=>?_,fun h w1' hr=>by cases hr⟩;simp only[newObj,Sem.run,Result.ok.injEq]at hr;obtain⟨rfl,rfl⟩:=hr
 exact⟨_,by simp[newObj,Sem.run,hE.size],hE.push hX o,QB.push hX o,hW.push ho,⟨QhR _,QhT _ _,rfl,rfl⟩,hQ _ (by
  cases hx:X w'.heap.size with
  |false=>rfl
  |true=>exact absurd (hX.lt _ hx) (by rw[hE.size];omega)),fun B hB es hes e he=>hes e he⟩
theorem Qbs {Q:Nat→Prop}(q:Question)(hQ:∀r,Q r):Tr P P' LO X Q (choose q) (choose q):=by
 intro w w' hE hX hW hT
 cases hf:q.forced with
 |true=>
  refine⟨fun v w1' hr=>?_,fun h w1' hr=>by simp[choose,Sem.run,hf]at hr⟩;simp only[choose,Sem.run,hf,if_true,Result.ok.injEq]at hr;obtain⟨rfl,rfl⟩:=hr
  exact⟨w,by simp[choose,Sem.run,hf],hE,QB.refl X w,hW,⟨QhR _,QhT _ _,rfl,rfl⟩,hQ _,fun B hB es hes e he=>by
   simp only[choose,Sem.events,Sem.runT,hf,if_true]at he
   exact hes e he⟩
 |false=>
  refine⟨fun v w1' hr=>?_,fun h w1' hr=>by simp[choose,Sem.run,hf]at hr⟩;simp only[choose,Sem.run,hf,Bool.false_eq_true,if_false,Result.ok.injEq]at hr;obtain⟨rfl,rfl⟩:=hr;have h0:=hT 0 (by simp[choose,Sem.run,hf,rw]);simp only[Nat.add_zero]at h0;refine⟨{w with drawn:=w.drawn+1},by simp[choose,Sem.run,hf,h0],⟨hE.heap,hE.size,hE.os,hE.out⟩,⟨QhR _,fun _ _=>rfl⟩,hW,⟨Nat.le_succ _,by simp only;omega,rfl,rfl⟩,hQ _,fun B hB es hes e he=>?_⟩;simp only[choose,Sem.events,Sem.runT,hf,Bool.false_eq_true,if_false]at he;exact hes e he
theorem YP {Q:β→Prop}{f' f:Program→Sem β}(h:Tr P P' LO X Q (f' P') (f P)):Tr P P' LO X Q (program>>= f') (program>>= f):=fun w w' hE hX hW hT=>h w w' hE hX hW hT
def Po (o' o:Obj):Prop:=(∃a a' t,o'=.view a' t∧o=.view a t)∨(∃l:Loop,o'=.deferred none∧o=.loop l)∨(∃c,o'=.deferred none∧o=.deferred c)∨∃c e,o'=.deferred none∧o=.pending c e
theorem U7 (r:Nat){f' f:Obj→Sem β}{R:β→Prop}(hf:∀o,X r=false→(Yx LO o∨∃a t,o=.view a t)→Tr P P' LO X R (f' o) (f o))(hx:X r=true→∀o' o,Po o' o→Tr P P' LO X R (f' o') (f o)):
 Tr P P' LO X R (getObj r>>= f') (getObj r>>= f):=by
 intro w w' hE hX hW hT
 have none_:∀s,(getObj r).run P' w'=.halt (.stuck s) w'→(∀a w1',(getObj r>>= f').run P' w'=.ok a w1'→∃w1,(getObj r>>= f).run P w=.ok a w1∧Em X w1 w1'∧QB X w w1∧WOk LO w1'∧Dr w w' w1 w1'∧R a∧
  ∀B,w1.heap.size≤B→∀es:Array Event,(∀e∈es,Ev X B e)→∀e∈(getObj r>>= f).events P w es,Ev X B e)∧∀h w1',(getObj r>>= f').run P' w'=.halt h w1'→HOk h∧WOk LO w1':=by
  intro s e;have:(getObj r>>= f').run P' w'=.halt (.stuck s) w':=by rw[Sem.run_bind,e];rfl
  rw[this];exact⟨fun v w1' hr=>(by cases hr),fun h w1' hr=>by cases hr;exact⟨trivial,hW⟩⟩
 cases ho:w'.heap[r]? with
 |none=>exact none_ "getObj: no such block" (by simp only[getObj,Sem.run,ho])
 |some o=>
  obtain⟨o0,h1,h2,h3⟩:=hE.obj ho;by_cases hcell:∃c e fz,o=.cells c e fz
  ·obtain⟨c,e,fz,rfl⟩:=hcell;exact none_ "getObj: a row of cells" (by simp only[getObj,Sem.run,ho])
  ·have hn:∀c e fz,o≠.cells c e fz:=fun c e fz h=>hcell ⟨c,e,fz,h⟩
   have hn0:∀c e fz,o0≠.cells c e fz:=by
    intro c e fz h;subst h
    cases hX':X r with
    |false=>exact hn _ _ _ (by rw[h2,YF hX'])
    |true=>exact hn #[] e fz (by rw[h2];simp only[emO,hX',if_true])
   have hT2:Tr P P' LO X R (f' o) (f o0):=by
    cases hX':X r with
    |true=>
     have hk:=hX.ob r o0 hX' h1;refine hx hX' _ _ ?_;rw[h2]
     cases o0 with
     |cells c e fz=>exact absurd rfl (hn0 c e fz)
     |view a t=>exact .inl ⟨a,⟨r,0,none⟩,t,by simp[emO,hX'],rfl⟩
     |loop l=>exact .inr (.inl ⟨l,by simp[emO,hX'],rfl⟩)
     |deferred c=>exact .inr (.inr (.inl ⟨c,by simp[emO,hX'],rfl⟩))
     |pending c e=>exact .inr (.inr (.inr ⟨c,e,by simp[emO,hX'],rfl⟩))
     |_=>exact hk.elim
    |false=>
     have ho0:o=o0:=by rw[h2,YF hX']
     subst ho0;refine hf o hX' ?_;have:=hW r o ho
     cases o with
     |view a t=>exact .inr ⟨a,t,rfl⟩
     |deferred c=>left;cases c<;>first|exact this|trivial
     |loop l=>exact .inl this
     |pending c e=>exact this.elim
     |_=>exact .inl trivial
   have hw:(getObj r).run P w=.ok o0 w:=by
    cases o0<;>first|exact absurd rfl (hn0 _ _ _)|simp only[getObj,Sem.run,h1]
   have hw':(getObj r).run P' w'=.ok o w':=by
    cases o<;>first|exact absurd rfl (hn _ _ _)|simp only[getObj,Sem.run,ho]
   have hb:(getObj r>>= f).run P w=(f o0).run P w:=by rw[Sem.run_bind,hw];rfl
   have hb':(getObj r>>= f').run P' w'=(f' o).run P' w':=by rw[Sem.run_bind,hw'];rfl
   obtain⟨g,g0⟩:=hT2 w w' hE hX hW (by rw[←hb];exact hT);rw[hb'];refine⟨fun v w1' hr=>?_,fun h w1' hr=>g0 h w1' hr⟩;obtain⟨w1,g1,g2,g3,g4,g5,g6,g7⟩:=g v w1' hr;refine⟨w1,by rw[hb,g1],g2,g3,g4,g5,g6,fun B hB es hes e he=>?_⟩;rw[Sem.events_bind,hw,Result.evThen_ok]at he;refine g7 B hB _ (fun x hx=>?_) e he
   have he2:(getObj r).events P w es=es.push ⟨.obj r,false,o0.isChan⟩:=by
    cases o0<;>first|exact absurd rfl (hn0 _ _ _)|simp only[getObj,Sem.events,Sem.runT,h1]
   rw[he2]at hx;rcases Array.mem_push.1 hx with hx|rfl
   ·exact hes x hx
   ·exact QhU h3 (QhS g3.size hB)
theorem PH (r:Nat){f' f:Obj→Sem β}{R:β→Prop}(hf:∀o,X r=false→Yx LO o→Tr P P' LO X R (f' o) (f o))
 (hv:∀a t s,Tr P P' LO X R (f' (.view a t)) s)(hd:∀s,Tr P P' LO X R (f' (.deferred none)) s):Tr P P' LO X R (getObj r>>= f') (getObj r>>= f):=
 U7 r (fun o h1 h2=>by
  rcases h2 with h2|⟨a,t,rfl⟩
  ·exact hf o h1 h2
  ·exact hv a t _) (fun _ o' o hp=>by
  rcases hp with⟨a,a',t,rfl,rfl⟩|⟨l,rfl,rfl⟩|⟨c,rfl,rfl⟩|⟨c,e,rfl,rfl⟩
  ·exact hv _ _ _
  ·exact hd _
  ·exact hd _
  ·exact hd _)
theorem Qa3 {γ:Type}(s:Sem α)(g:α→Sem β)(f:β→Sem γ):(s>>= g)>>= f=s>>= fun a=>g a>>= f:=by
 show(s.bind g).bind f=s.bind fun a=>(g a).bind f
 induction s with
 |pure a=>rfl
 |halt h=>rfl
 |store m a v k ih=>simp only[Sem.bind,ih]
 |freeze a n k ih=>simp only[Sem.bind,ih]
 |setObj r o k ih=>simp only[Sem.bind,ih]
 |mark m k ih=>simp only[Sem.bind,ih]
 |_=>simp only[Sem.bind];congr 1;funext x;rename_i ih;exact ih x
theorem UD {Q:Unit→Prop}(r:Nat){o:Obj}(hX0:X r=false)(ho:Yx LO o)(hQ:Q ()):Tr P P' LO X Q (setObj r o) (setObj r o):=by
 intro w w' hE hX hW hT;refine⟨fun v w1' hr=>?_,fun h w1' hr=>?_⟩
 ·simp only[setObj,Sem.run]at hr;split at hr
  ·cases hr
  ·rename_i o1 hn ho1;simp only[Result.ok.injEq,true_and]at hr;subst hr;obtain⟨o0,h1,h2,h3⟩:=hE.obj ho1;rw[YF hX0]at h2;subst h2
   have hw:(setObj r o).run P w=.ok () {w with heap:=w.heap.setIfInBounds r o}:=by
    simp only[setObj,Sem.run,h1]
   refine⟨_,hw,hE.put o hX0,QB.put o hX0,hW.put ho,⟨QhR _,QhT _ _,rfl,rfl⟩,hQ,fun B hB es hes e he=>?_⟩
   have he2:(setObj r o).events P w es=es.push ⟨.obj r,true,o.isChan⟩:=by
    simp only[setObj,Sem.events,Sem.runT,h1]
   rw[he2]at he;rcases Array.mem_push.1 he with he|rfl
   ·exact hes e he
   ·exact QhU h3 (by simpa using hB)
  ·cases hr
 ·simp only[setObj,Sem.run]at hr;split at hr
  ·cases hr;exact⟨trivial,hW⟩
  ·cases hr
  ·cases hr;exact⟨trivial,hW⟩
theorem Qbu (r:Nat){f' f:Option (TypeId×Nat)→Sem β}{R:β→Prop}(hf:∀o,Tr P P' LO X R (f' o) (f o))(hx:∀e n,Tr P P' LO X R (f' (some (e,0))) (f (some (e,n)))):Tr P P' LO X R (shape r>>= f') (shape r>>= f):=by
 intro w w' hE hX hW hT
 have h2:∃o' o,w'.shape? r=o'∧w.shape? r=o∧Tr P P' LO X R (f' o') (f o):=by
  have hh:=hE.heap r;refine⟨_,_,rfl,rfl,?_⟩;unfold World.shape?;rw[hh]
  cases hw:w.heap[r]? with
  |none=>exact hf none
  |some o0=>
   cases hX':X r with
   |false=>simp only[QhW,YF hX'];exact hf _
   |true=>
    have hk:=hX.ob r o0 hX' hw
    cases o0<;>simp only[QhW,emO,hX',if_true]<;>first|exact hk.elim|exact hx _ _|exact hf none
 obtain⟨o',o,h3,h4,h5⟩:=h2;have hb:(shape r>>= f).run P w=(f o).run P w:=by rw[Sem.run_bind];simp[shape,Sem.run,Result.andThen,h4]
 have hb':(shape r>>= f').run P' w'=(f' o').run P' w':=by rw[Sem.run_bind];simp[shape,Sem.run,Result.andThen,h3]
 rw[hb'];obtain⟨g,g0⟩:=h5 w w' hE hX hW (by rw[←hb];exact hT);refine⟨fun v w1' hr=>?_,fun h w1' hr=>g0 h w1' hr⟩;obtain⟨w1,g1,g2,g3,g4,g5,g6,g7⟩:=g v w1' hr;refine⟨w1,by rw[hb,g1],g2,g3,g4,g5,g6,fun B hB es hes e he=>g7 B hB es hes e ?_⟩;rw[Sem.events_bind]at he;simp only[shape,Sem.run,h4,Result.evThen_ok]at he;exact he
theorem Qhv {Q:Unit→Prop}(hQ:Q ()):Tr P P' LO X Q (mark .noRoom) (mark .noRoom):=by
 intro w w' hE hX hW hT;refine⟨fun v w1' hr=>?_,fun h w1' hr=>by cases hr⟩;simp only[mark,Sem.run,Result.ok.injEq,true_and]at hr;subst hr;refine⟨w,rfl,hE,QB.refl X w,hW,⟨QhR _,QhT _ _,rfl,rfl⟩,hQ,fun B hB es hes e he=>?_⟩;simp only[mark,Sem.events,Sem.runT]at he;rcases Array.mem_push.1 he with he|rfl
 ·exact hes e he
 ·rfl
end
end Co
end Go.Proofs.YtcpnkpogebjieaaGreat
