/- From runs of one goroutine alone, on every tape, to a way of goroutine 0's in company of -/
import Derived.Test.YtcpnkpogebjieaaGreatS05Tq
import Derived.Test.YtcpnkpogebjieaaGreatProg
import Derived.Conc.WgLib
import Derived.WalkKit
import Derived.Conc.CrowdTrace
import Derived.Conc.Beside
import Derived.Conc.CrowdRun
import Derived.Conc.CrowdComm
namespace Go.Proofs.YtcpnkpogebjieaaGreat
namespace Co
open Go.Conc
inductive Way (P:Program) (X:Nat→Bool) (Fin:Goroutine→World→Prop):Goroutine→World→Prop
 |stop {g:Goroutine} {w:World}:Fin g w→Way P X Fin g w
 |step {g:Goroutine} {w:World}:g.status=.running→(∀d,∃g' w' es,stepG P true g (w.at d)=.go g' w' es∧w.heap.size≤w'.heap.size∧∀B,w'.heap.size≤B→∀e∈es,Ev X B e)→(∀d g' w' es,stepG P true g (w.at d)=.go g' w' es→Way P X Fin g' w')→Way P X Fin g w
section
variable (P:Program) (X:Nat→Bool) (Fin:Goroutine→World→Prop)
open Classical in
noncomputable def Jm (s:Goroutine×World):Nat:=
 if h:∃d,∀g' w' es,stepG P true s.1 (s.2.at d)=.go g' w' es→(s.2.heap.size≤w'.heap.size∧∀B,w'.heap.size≤B→∀e∈es,Ev X B e)→¬Way P X Fin g' w' then Classical.choose h else 0
def UE (s s':Goroutine×World):Prop:=∃fr cs es,stepG P true s.1 (s.2.at (Jm P X Fin s))=.go s'.1 s'.2 es∧s'.1=G fr cs∧Jm P X Fin s≤s'.2.drawn
open Classical in
noncomputable def YI (s:Goroutine×World):Option (Goroutine×World):=if h:∃s',UE P X Fin s s' then some (Classical.choose h)else none
noncomputable def ZL (s0:Goroutine×World):Nat→Goroutine×World
 |0=>s0
 |i+1=>(YI P X Fin (ZL s0 i)).getD (ZL s0 i)
noncomputable def ZK (s0:Goroutine×World):Nat→Nat
 |0=>0
 |i+1=>ZK s0 i+match YI P X Fin (ZL P X Fin s0 i)with
  |some s'=>s'.2.drawn-Jm P X Fin (ZL P X Fin s0 i)
  |none=>0
def Of (s0:Goroutine×World)(i j:Nat):Prop:=ZK P X Fin s0 i≤j∧(j<ZK P X Fin s0 (i+1)∨YI P X Fin (ZL P X Fin s0 i)=none)
open Classical in
noncomputable def YN (s0:Goroutine×World)(j:Nat):Question→Nat:=
 if h:∃i,Of P X Fin s0 i j then s0.2.tape (Jm P X Fin (ZL P X Fin s0 (Classical.choose h))+(j-ZK P X Fin s0 (Classical.choose h)))else fun _=>0
variable {P X Fin}
theorem QfD {s s':Goroutine×World}(h:UE P X Fin s s'):YI P X Fin s=some s':=by
 have hx:∃s',UE P X Fin s s':=⟨s',h⟩;have hc:=Classical.choose_spec hx;unfold YI;rw[dif_pos hx];obtain⟨fr,cs,es,h1,_,_⟩:=h;obtain⟨fr2,cs2,es2,h2,_,_⟩:=hc;rw[h1]at h2;simp only[GStep.go.injEq]at h2;obtain⟨e1,e2,_⟩:=h2;exact congrArg some (Prod.ext e1.symm e2.symm)
theorem QgG (s0:Goroutine×World){i j:Nat}(h:i≤j):ZK P X Fin s0 i≤ZK P X Fin s0 j:=by
 induction h with
 |refl=>exact Nat.le_refl _
 |step _ ih=>exact Nat.le_trans ih (Nat.le_add_right _ _)
theorem QgY (s0:Goroutine×World){i:Nat}(hn:YI P X Fin (ZL P X Fin s0 i)=none){j:Nat}(h:i≤j):ZL P X Fin s0 j=ZL P X Fin s0 i∧ZK P X Fin s0 j=ZK P X Fin s0 i:=by
 induction h with
 |refl=>exact⟨rfl,rfl⟩
 |step _ ih=>
  obtain⟨h1,h2⟩:=ih;simp only[ZL,ZK,h1,h2,hn];exact⟨rfl,rfl⟩
theorem Qav {s0:Goroutine×World}{i i' j:Nat}(h:Of P X Fin s0 i j)(h':Of P X Fin s0 i' j)(hlt:i<i'):ZL P X Fin s0 i'=ZL P X Fin s0 i∧ZK P X Fin s0 i'=ZK P X Fin s0 i:=by
 have hm:=QgG (P:=P) (X:=X) (Fin:=Fin) s0 (show i+1≤i' from hlt);rcases h.2 with h2|h2
 ·have:=h'.1;omega
 ·exact QgY s0 h2 (Nat.le_of_lt hlt)
theorem QgP {s0:Goroutine×World}{i j:Nat}(h:Of P X Fin s0 i j):YN P X Fin s0 j=s0.2.tape (Jm P X Fin (ZL P X Fin s0 i)+(j-ZK P X Fin s0 i)):=by
 have hx:∃i,Of P X Fin s0 i j:=⟨i,h⟩;unfold YN;rw[dif_pos hx];have hc:=Classical.choose_spec hx
 have:ZL P X Fin s0 (Classical.choose hx)=ZL P X Fin s0 i∧ZK P X Fin s0 (Classical.choose hx)=ZK P X Fin s0 i:=by
  rcases Nat.lt_trichotomy (Classical.choose hx) i with hl|he|hl
  ·obtain⟨e1,e2⟩:=Qav hc h hl;exact⟨e1.symm,e2.symm⟩
  ·rw[he];exact⟨rfl,rfl⟩
  ·exact Qav h hc hl
 rw[this.1,this.2]
theorem Qfb {g:Goroutine}{w:World}(hr:g.status=.running)(h:¬Way P X Fin g w){g':Goroutine}{w':World}{es:Array Event}(hs:stepG P true g (w.at (Jm P X Fin (g,w)))=.go g' w' es)
 (he:w.heap.size≤w'.heap.size∧∀B,w'.heap.size≤B→∀e∈es,Ev X B e):¬Way P X Fin g' w':=by
 have hx:∃d,∀g' w' es,stepG P true g (w.at d)=.go g' w' es→(w.heap.size≤w'.heap.size∧∀B,w'.heap.size≤B→∀e∈es,Ev X B e)→¬Way P X Fin g' w':=by
  apply Classical.byContradiction;intro hn
  have key:∀d,∃g' w' es,stepG P true g (w.at d)=.go g' w' es∧(w.heap.size≤w'.heap.size∧∀B,w'.heap.size≤B→∀e∈es,Ev X B e)∧Way P X Fin g' w':=by
   intro d;apply Classical.byContradiction;intro hd;exact hn ⟨d,fun g' w' es h1 h2 h3=>hd ⟨g',w',es,h1,h2,h3⟩⟩
  refine h (.step hr (fun d=>?_) fun d g' w' es hs=>?_)
  ·obtain⟨g',w',es,h1,h2,_⟩:=key d;exact⟨g',w',es,h1,h2⟩
  ·obtain⟨g2,w2,es2,h1,_,h3⟩:=key d;rw[h1]at hs;simp only[GStep.go.injEq]at hs;obtain⟨rfl,rfl,_⟩:=hs;exact h3
 have e:Jm P X Fin (g,w)=Classical.choose hx:=by
  unfold Jm;exact dif_pos hx
 rw[e]at hs;exact Classical.choose_spec hx g' w' es hs he
end
section
variable {T:Tables} {F F':Array Func} {S:FuncId→Bool} {X:Nat→Bool} {cs0:List Frame} {Fin:Goroutine→World→Prop}
theorem QdJ {P':Program}:∀(n:Nat) (g:Goroutine) (w:World),YQ T S X g→WOk (LOk T S) w→∀fr1 mid1 w1,(fr1.mode=.run∨fr1.mode=.returning)→runN P' n (lone g.frame g.callers w)≠.next (lone fr1 (mid1++ [c0]) w1):=by
 intro n
 have form:∀g,YQ T S X g→g=G g.frame g.callers:=by
  rintro g (⟨fr,mid,chain,rfl,_⟩|⟨chain,rfl⟩|⟨v,rfl⟩)<;>rfl
 induction n with
 |zero=>
  intro g w hg _ fr1 mid1 w1 hm h;simp only[runN,lone,Stepped.next.injEq,Machine.mk.injEq]at h;have h2:=h.2.1;simp only[Array.mk.injEq,List.cons.injEq,Goroutine.mk.injEq,and_true]at h2;rcases hg with⟨fr,mid,chain,rfl,hp,_⟩|⟨chain,rfl⟩|⟨v,rfl⟩
  ·have:fr=fr1:=h2.1;rw[this]at hp;rcases hm with hm|hm<;>rw[hm]at hp<;>cases hp
  ·have:([]:List Frame)=mid1++ [c0]:=h2.2;simp at this
  ·have:([]:List Frame)=mid1++ [c0]:=h2.2;simp at this
 |succ n ih=>
  intro g w hg hw fr1 mid1 w1 hm h;have hG:=form g hg;rcases Qei (P':=P') (w:=w) hg with⟨o,w2,es,he⟩|⟨g2,w2,es,he⟩
  ·have hs:step P' (lone g.frame g.callers w)=.ended o w2:=step_lone_ended (by rw[show({frame:=g.frame,callers:=g.callers,status:=.running,dying:=none}:Goroutine)=g from hG.symm,he];rfl);simp only[runN,hs]at h
   cases h
  ·obtain⟨hd2,hw2⟩:=QdK hw hg he;have hG2:=form g2 hd2
   have hs:step P' (lone g.frame g.callers w)=.next (lone g2.frame g2.callers w2):=step_lone_go (by
    rw[show({frame:=g.frame,callers:=g.callers,status:=.running,dying:=none}:Goroutine)=g from hG.symm,he];show GStep.go g2 w2=_;rw[hG2]
    rfl)
   simp only[runN,hs]at h;exact ih g2 w2 hd2 hw2 fr1 mid1 w1 hm h
structure At (T:Tables) (F:Array Func) (S:FuncId→Bool) (X:Nat→Bool) (cs0:List Frame) (Fin:Goroutine→World→Prop) (s0:Goroutine×World) (i:Nat) (fr:Frame) (mid:List Frame) (w w':World):Prop where
 seq:ZL (PP T F) X Fin s0 i=(G fr (mid++cs0),w)
 em:Em X w w'
 tape':w'.tape=YN (PP T F) X Fin s0
 drawn':w'.drawn=ZK (PP T F) X Fin s0 i
 fok:FOk T S X fr
 mode:fr.mode=.run∨fr.mode=.returning
 mok:MOk T S X mid
 xok:XOk X w
 wok:WOk (LOk T S) w'
 kept:QB X s0.2 w
 tape:w.tape=s0.2.tape
 os:w.os=w'.os
 no:¬Way (PP T F) X Fin (G fr (mid++cs0)) w
theorem QgQ (hC:Cut T F F' S){s0:Goroutine×World}{fr1:Frame}{mid1:List Frame}{w1':World}(hret:fr1.mode=.run∨fr1.mode=.returning)
 (hFin:∀w1,FOk T S X fr1→MOk T S X mid1→Em X w1 w1'→XOk X w1→WOk (LOk T S) w1'→QB X s0.2 w1→w1.tape=s0.2.tape→Fin (G fr1 (mid1++cs0)) w1):
 ∀(n i:Nat) (fr:Frame) (mid:List Frame) (w w':World),At T F S X cs0 Fin s0 i fr mid w w'→runN (PP T F') n (lone fr (mid++ [c0]) w')≠.next (lone fr1 (mid1++ [c0]) w1'):=by
 intro n
 induction n with
 |zero=>
  intro i fr mid w w' h hr;simp only[runN,lone,Stepped.next.injEq,Machine.mk.injEq]at hr;obtain⟨rfl,hr2,_⟩:=hr;simp only[Array.mk.injEq,List.cons.injEq,Goroutine.mk.injEq,and_true]at hr2;obtain⟨rfl,hr3⟩:=hr2;have hmid:mid=mid1:=List.append_cancel_right hr3;subst hmid;exact h.no (.stop (hFin w h.fok h.mok h.em h.xok h.wok h.kept h.tape))
 |succ n ih=>
  intro i fr mid w w' h hr;have hd:∀d,Em X (w.at d) w':=fun d=>⟨h.em.heap,h.em.size,h.em.os,h.em.out⟩;have hx:∀d,XOk X (w.at d):=fun d=>⟨h.xok.lt,h.xok.ob⟩;have hlost:Jm (PP T F) X Fin (ZL (PP T F) X Fin s0 i)=Jm (PP T F) X Fin (G fr (mid++cs0),w):=by rw[h.seq]
  have hag:JM (w.at (Jm (PP T F) X Fin (G fr (mid++cs0),w))) w' (stepG (PP T F) true (G fr (mid++cs0)) (w.at (Jm (PP T F) X Fin (G fr (mid++cs0),w)))):=by
   intro k hk
   have hof:Of (PP T F) X Fin s0 i (ZK (PP T F) X Fin s0 i+k):=by
    refine⟨Nat.le_add_right _ _,?_⟩
    cases hn:YI (PP T F) X Fin (ZL (PP T F) X Fin s0 i)with
    |none=>exact .inr rfl
    |some s'=>
     left
     have hg:UE (PP T F) X Fin (ZL (PP T F) X Fin s0 i) s':=by
      unfold YI at hn;split at hn
      ·rename_i hx;have:=Classical.choose_spec hx
       cases hn
       exact this
      ·cases hn
     obtain⟨fr2,cs2,es2,g1,g2,g3⟩:=hg;rw[h.seq]at g1 g3;dsimp only at g1;rw[g2]at g1;have:=hk fr2 cs2 s'.2 es2 g1;simp only[World.at]at this;have hc:ZK (PP T F) X Fin s0 (i+1)=ZK (PP T F) X Fin s0 i+(s'.2.drawn-Jm (PP T F) X Fin (G fr (mid++cs0),w)):=by simp only[ZK,hn,hlost]
     rw[hc];omega
   have hsp:=QgP hof;rw[h.tape',h.drawn',hsp,hlost];show s0.2.tape _=w.tape _;rw[h.tape];simp only[World.at,Nat.add_sub_cancel_left]
  rcases Qel hC h.fok h.mode (hd _) (hx _) h.wok hag with⟨o,w2,es,he⟩|⟨g2,w2',es,he⟩
  ·have hs:step (PP T F') (lone fr (mid++ [c0]) w')=.ended o w2:=step_lone_ended (by
    show(stepG (PP T F') true (G fr (mid++ [c0])) w').bare=_
    rw[he];rfl)
   simp only[runN,hs]at hr
   cases hr
  ·rcases QgW hC h.fok h.mode h.mok (hd _) (hx _) h.wok hag he with⟨fr2,mid2,w2,es2,e1,e2,e3,e4,e5,e6,e7,e8,e9,e10⟩|⟨hdm,hw⟩
   ·subst e1
    have hs:step (PP T F') (lone fr (mid++ [c0]) w')=.next (lone fr2 (mid2++ [c0]) w2'):=step_lone_go (by
     show(stepG (PP T F') true (G fr (mid++ [c0])) w').bare=_
     rw[he];rfl)
    simp only[runN,hs]at hr
    have hgo:UE (PP T F) X Fin (ZL (PP T F) X Fin s0 i) (G fr2 (mid2++cs0),w2):=by
     refine⟨fr2,mid2++cs0,es2,?_,rfl,?_⟩
     ·rw[h.seq];exact e2
     ·rw[h.seq];exact e9.le
    have hn:=QfD hgo;have hseq:ZL (PP T F) X Fin s0 (i+1)=(G fr2 (mid2++cs0),w2):=by simp only[ZL,hn,Option.getD_some]
    have hc:ZK (PP T F) X Fin s0 (i+1)=ZK (PP T F) X Fin s0 i+(w2.drawn-Jm (PP T F) X Fin (G fr (mid++cs0),w)):=by simp only[ZK,hn,hlost]
    have htw:w2.tape=w.tape:=e9.tp;have htw':w2'.tape=w'.tape:=e9.tp';refine ih (i+1) fr2 mid2 w2 w2' ⟨hseq,e6,htw'.trans h.tape',?_,e3,e4,e5,(hx _).kept e7,e8,(show QB X s0.2 (w.at (Jm (PP T F) X Fin (G fr (mid++cs0),w)))from⟨h.kept.size,h.kept.ob⟩).trans e7,htw.trans h.tape,e6.os.symm,?_⟩ hr
    ·have h9:=e9.eq;have h91:=e9.le;have hdr:=h.drawn';simp only[World.at]at h9 h91;rw[hc];omega
    ·exact Qfb rfl h.no e2 ⟨e7.size,e10⟩
   ·have hG:g2=G g2.frame g2.callers:=by
     rcases hdm with⟨fr,mid,chain,rfl,_⟩|⟨chain,rfl⟩|⟨v,rfl⟩<;>rfl
    have hs:step (PP T F') (lone fr (mid++ [c0]) w')=.next (lone g2.frame g2.callers w2'):=step_lone_go (by
     show(stepG (PP T F') true (G fr (mid++ [c0])) w').bare=_;rw[he];show GStep.go g2 w2'=_;rw[hG]
     rfl)
    simp only[runN,hs]at hr;exact QdJ n g2 w2' hdm hw fr1 mid1 w1' hret hr
end
end Co
namespace Co
open Go.Conc
open Go.ConcN (sumTo upd sumTo_upd upd_ne upd_same)
def emW (X:Nat→Bool)(w:World):World:={w with heap:=w.heap.mapIdx fun r o=>emO X r o}
theorem Vv (X:Nat→Bool)(w:World)(t:Nat→Question→Nat)(d:Nat):Em X w {emW X w with tape:=t,drawn:=d}:=
 ⟨fun r=>by simp[emW],by simp[emW],rfl,rfl⟩
section
variable {T:Tables} {F F':Array Func} {S:FuncId→Bool} {X:Nat→Bool} {cs0:List Frame} {Fin:Goroutine→World→Prop}
theorem QbM (hC:Cut T F F' S){fr:Frame}{mid:List Frame}(hf:FOk T S X fr)(hmode:fr.mode=.run∨fr.mode=.returning)(hm:MOk T S X mid){w:World}(hX:XOk X w)(hW:WOk (LOk T S) (emW X w))
 (H:∀t d,∃fr1 mid1 w1',Steps (PP T F') (lone fr (mid++ [c0]) {emW X w with tape:=t,drawn:=d}) (lone fr1 (mid1++ [c0]) w1')∧(fr1.mode=.run∨fr1.mode=.returning)∧
   ∀w1,FOk T S X fr1→MOk T S X mid1→Em X w1 w1'→XOk X w1→WOk (LOk T S) w1'→QB X w w1→w1.tape=w.tape→Fin (G fr1 (mid1++cs0)) w1):Way (PP T F) X Fin (G fr (mid++cs0)) w:=by
 apply Classical.byContradiction;intro hno;obtain⟨fr1,mid1,w1',⟨n,hn⟩,hret,hfin⟩:=H (YN (PP T F) X Fin (G fr (mid++cs0),w)) 0;refine QgQ hC (s0:=(G fr (mid++cs0),w)) hret hfin n 0 fr mid w _ ⟨rfl,Vv X w _ _,rfl,rfl,hf,hmode,hm,hX,?_,QB.refl X w,rfl,rfl,hno⟩ hn;exact hW
theorem QhH {P:Program}{Fin':Goroutine→World→Prop}{g:Goroutine}{w:World}(h:Way P X Fin g w)(k:∀g w,Fin g w→Way P X Fin' g w):Way P X Fin' g w:=by
 induction h with
 |stop h=>exact k _ _ h
 |step hr h1 _ ih=>exact .step hr h1 ih
theorem QhG {P:Program}{g g1:Goroutine}{w:World}(f:World→World)(hr:g.status=.running)(hs:∀d,∃es,stepG P true g (w.at d)=.go g1 (f (w.at d)) es∧w.heap.size≤(f (w.at d)).heap.size∧∀B,(f (w.at d)).heap.size≤B→∀e∈es,Ev X B e)
 (hk:∀d,Way P X Fin g1 (f (w.at d))):Way P X Fin g w:=
 .step hr (fun d=>by obtain⟨es,h1,h2⟩:=hs d;exact⟨g1,_,es,h1,h2⟩) fun d g' w' es h=>by
   obtain⟨es2,h1,_⟩:=hs d;rw[h1]at h;simp only[GStep.go.injEq]at h;obtain⟨rfl,rfl,_⟩:=h;exact hk d
theorem Qd5 {Shun:Loc→Prop}(hS:∀l,Shun l→∃a,l=.cell a∧X a.block=true){B:Nat}{e:Event}(h:Ev X B e):EvL Shun B e:=by
 obtain⟨loc,wr,sy⟩:=e;unfold Ev at h
 cases loc with
 |cell a=>
  refine⟨fun x hx hs=>?_,by simp,by simp,h.2⟩
  have:x.loc=.cell a:=by
   simp only[MemAct.ofEvent,MemAct.touch?,Option.some.injEq]at hx;rw[←hx]
  rw[this]at hs;obtain⟨b,hb,hX⟩:=hS _ hs
  cases hb
  rw[h.1]at hX
  cases hX
 |obj r=>
  refine⟨fun x hx hs=>?_,by simp,by simp,?_⟩
  ·obtain⟨b,hb,_⟩:=hS _ hs;exfalso
   cases wr<;>cases sy<;>simp[MemAct.ofEvent,MemAct.touch?]at hx<;>(subst hx;cases hb)
  ·cases wr<;>cases sy<;>exact h
 |mark m=>
  have:m=.noRoom:=h;subst this;exact⟨fun x hx _=>by simp[MemAct.ofEvent,MemAct.touch?]at hx,by simp,by simp,trivial⟩
 |_=>exact h.elim
end
end Co
end Go.Proofs.YtcpnkpogebjieaaGreat
namespace Go.Proofs.YtcpnkpogebjieaaGreat.Co
section
variable (T:Tables) (F F':Array Func) (t:TypeId) (w:World)
theorem info_tables:(typeInfo t).run (PP T F') w=(typeInfo t).run (PP T F) w:=by
 unfold typeInfo;rw[Sem.run_bind,Sem.run_bind];simp only[program,Sem.run,Result.andThen]
 cases T.info? t<;>rfl
theorem size_tables:(sizeOf t).run (PP T F') w=(sizeOf t).run (PP T F) w:=by
 simp only[sizeOf,Sem.run_bind,info_tables T F F']
 cases(typeInfo t).run (PP T F) w<;>rfl
theorem under_tables:(PP T F').underlying t=(PP T F).underlying t:=rfl
theorem guard_tables:(PP T F').eqGuardType (PP T F').depth t=(PP T F).eqGuardType (PP T F).depth t:=KP T F F' _ t
theorem runUnder_tables:(underlying t).run (PP T F') w=(underlying t).run (PP T F) w:=by
 unfold underlying;rw[Sem.run_bind,Sem.run_bind];simp only[program,Sem.run,Result.andThen,under_tables T F F' t]
 cases(PP T F).underlying t<;>rfl
theorem isAgg_tables:(isAgg t).run (PP T F') w=(isAgg t).run (PP T F) w:=by
 simp only[isAgg,Sem.run_bind,runUnder_tables T F F']
 cases(underlying t).run (PP T F) w with
 |ok d w=>cases d<;>simp only[Result.andThen,Sem.run_pure]
 |halt h w=>simp only[Result.andThen]
theorem zero_tables:(zeroValue t).run (PP T F') w=(zeroValue t).run (PP T F) w:=by
 simp only[zeroValue,Sem.run_bind,info_tables T F F']
 cases(typeInfo t).run (PP T F) w with
 |ok d w=>
  simp only[Result.andThen]
  cases d.zero<;>simp[unsupported]
 |halt h w=>simp only[Result.andThen]
end
end Go.Proofs.YtcpnkpogebjieaaGreat.Co
namespace Go.Proofs.Cut
open Go.Proofs.YtcpnkpogebjieaaGreat.Co
def gone:Func:={(default:Func)with name:= "",origin:= "",body:=none}
def keep (f:FuncId):Bool:=!([0,1,2,81,108,109,110,111,112,113,128,129,130,131,132,133,134,135,136,137,138,139,140,141,142,143,144,145,149,150,151,152,153,176,177,178,179,180,181,182,183,184,185,186,187,188,189,190,194]:List Nat).contains f
@[irreducible] noncomputable def funcs:Array Func:=Tryz.funcs.mapIdx fun i f=>if keep i then f else gone
noncomputable def prog:Program:={toTables:=Tryz.progTables,funcs:=funcs}
@[simp] theorem run_info (t:TypeId) (w:World):(typeInfo t).run prog w=(typeInfo t).run Tryz.prog w:=info_tables _ _ _ t w
@[simp] theorem run_size (t:TypeId) (w:World):(sizeOf t).run prog w=(sizeOf t).run Tryz.prog w:=size_tables _ _ _ t w
@[simp] theorem run_under (t:TypeId) (w:World):(underlying t).run prog w=(underlying t).run Tryz.prog w:=runUnder_tables _ _ _ t w
@[simp] theorem run_agg (t:TypeId) (w:World):(isAgg t).run prog w=(isAgg t).run Tryz.prog w:=isAgg_tables _ _ _ t w
@[simp] theorem run_zero (t:TypeId) (w:World):(zeroValue t).run prog w=(zeroValue t).run Tryz.prog w:=zero_tables _ _ _ t w
@[simp] theorem under_eq (t:TypeId):prog.underlying t=Tryz.prog.underlying t:=under_tables _ _ _ t
@[simp] theorem types_eq:prog.types=Tryz.prog.types:=rfl
theorem guard_eq (t:TypeId):prog.eqGuardType prog.depth t=Tryz.prog.eqGuardType Tryz.prog.depth t:=guard_tables _ _ _ t
@[simp] theorem stood_eq (t:TypeId):prog.stoodInHeld t=Tryz.prog.stoodInHeld t:=PE _ _ _ t
@[simp] theorem guardWatch:prog.eqGuardType prog.depth 40=false:=(guard_eq 40).trans Tryz.eqGuardType40
theorem funcs_get (f:FuncId):funcs[f]? =(Tryz.funcs[f]?).map fun fn=>if keep f then fn else gone:=by
 unfold funcs;exact Array.getElem?_mapIdx
theorem func_of {f:FuncId}{fn:Func}(h:Tryz.prog.funcs[f]? =some fn)(hk:keep f=true):prog.funcs[f]? =some fn:=by
 have h1:prog.funcs[f]? =funcs[f]? :=rfl;rw[h1,funcs_get,hk];simp only[if_true,Option.map_id'];exact h
theorem call_of {f:FuncId}{fn:Func}(h:Tryz.prog.funcs[f]? =some fn)(hk:keep f=true)(hb:fn.body.isSome=true)(hn:(fn.name == "runtime.NumGoroutine")=false)(args:Array Value)(w:World):(callFunc f args).run prog w=.ok (.enter f args) w:=by
 have h3:fn.body.isNone=false:=by cases hq:fn.body<;>simp_all
 have:=func_of h hk;unfold callFunc;rw[Sem.run_bind];simp only[program,Sem.run,Result.andThen,this,hn,h3,Bool.false_eq_true,if_false];rfl
@[simp] theorem call9 (args:Array Value) (w:World):(callFunc 9 args).run prog w=.ok (.enter 9 args) w:=call_of Tryz.func9 rfl rfl (by kernel_rfl) args w
@[simp] theorem call12 (args:Array Value) (w:World):(callFunc 12 args).run prog w=.ok (.enter 12 args) w:=call_of Tryz.func12 rfl rfl (by kernel_rfl) args w
@[simp] theorem call13 (args:Array Value) (w:World):(callFunc 13 args).run prog w=.ok (.enter 13 args) w:=call_of Tryz.func13 rfl rfl (by kernel_rfl) args w
@[simp] theorem call14 (args:Array Value) (w:World):(callFunc 14 args).run prog w=.ok (.enter 14 args) w:=call_of Tryz.func14 rfl rfl (by kernel_rfl) args w
@[simp] theorem call15 (args:Array Value) (w:World):(callFunc 15 args).run prog w=.ok (.enter 15 args) w:=call_of Tryz.func15 rfl rfl (by kernel_rfl) args w
@[simp] theorem call16 (args:Array Value) (w:World):(callFunc 16 args).run prog w=.ok (.enter 16 args) w:=call_of Tryz.func16 rfl rfl (by kernel_rfl) args w
@[simp] theorem call19 (args:Array Value) (w:World):(callFunc 19 args).run prog w=.ok (.enter 19 args) w:=call_of Tryz.func19 rfl rfl (by kernel_rfl) args w
@[simp] theorem call20 (args:Array Value) (w:World):(callFunc 20 args).run prog w=.ok (.enter 20 args) w:=call_of Tryz.func20 rfl rfl (by kernel_rfl) args w
@[simp] theorem call21 (args:Array Value) (w:World):(callFunc 21 args).run prog w=.ok (.enter 21 args) w:=call_of Tryz.func21 rfl rfl (by kernel_rfl) args w
@[simp] theorem call30 (args:Array Value) (w:World):(callFunc 30 args).run prog w=.ok (.enter 30 args) w:=call_of Tryz.func30 rfl rfl (by kernel_rfl) args w
@[simp] theorem call31 (args:Array Value) (w:World):(callFunc 31 args).run prog w=.ok (.enter 31 args) w:=call_of Tryz.func31 rfl rfl (by kernel_rfl) args w
@[simp] theorem call32 (args:Array Value) (w:World):(callFunc 32 args).run prog w=.ok (.enter 32 args) w:=call_of Tryz.func32 rfl rfl (by kernel_rfl) args w
@[simp] theorem call34 (args:Array Value) (w:World):(callFunc 34 args).run prog w=.ok (.enter 34 args) w:=call_of Tryz.func34 rfl rfl (by kernel_rfl) args w
@[simp] theorem call35 (args:Array Value) (w:World):(callFunc 35 args).run prog w=.ok (.enter 35 args) w:=call_of Tryz.func35 rfl rfl (by kernel_rfl) args w
@[simp] theorem call36 (args:Array Value) (w:World):(callFunc 36 args).run prog w=.ok (.enter 36 args) w:=call_of Tryz.func36 rfl rfl (by kernel_rfl) args w
@[simp] theorem call37 (args:Array Value) (w:World):(callFunc 37 args).run prog w=.ok (.enter 37 args) w:=call_of Tryz.func37 rfl rfl (by kernel_rfl) args w
@[simp] theorem call38 (args:Array Value) (w:World):(callFunc 38 args).run prog w=.ok (.enter 38 args) w:=call_of Tryz.func38 rfl rfl (by kernel_rfl) args w
@[simp] theorem call39 (args:Array Value) (w:World):(callFunc 39 args).run prog w=.ok (.enter 39 args) w:=call_of Tryz.func39 rfl rfl (by kernel_rfl) args w
@[simp] theorem call41 (args:Array Value) (w:World):(callFunc 41 args).run prog w=.ok (.enter 41 args) w:=call_of Tryz.func41 rfl rfl (by kernel_rfl) args w
@[simp] theorem call42 (args:Array Value) (w:World):(callFunc 42 args).run prog w=.ok (.enter 42 args) w:=call_of Tryz.func42 rfl rfl (by kernel_rfl) args w
@[simp] theorem call43 (args:Array Value) (w:World):(callFunc 43 args).run prog w=.ok (.enter 43 args) w:=call_of Tryz.func43 rfl rfl (by kernel_rfl) args w
@[simp] theorem call44 (args:Array Value) (w:World):(callFunc 44 args).run prog w=.ok (.enter 44 args) w:=call_of Tryz.func44 rfl rfl (by kernel_rfl) args w
@[simp] theorem call45 (args:Array Value) (w:World):(callFunc 45 args).run prog w=.ok (.enter 45 args) w:=call_of Tryz.func45 rfl rfl (by kernel_rfl) args w
@[simp] theorem call46 (args:Array Value) (w:World):(callFunc 46 args).run prog w=.ok (.enter 46 args) w:=call_of Tryz.func46 rfl rfl (by kernel_rfl) args w
@[simp] theorem call47 (args:Array Value) (w:World):(callFunc 47 args).run prog w=.ok (.enter 47 args) w:=call_of Tryz.func47 rfl rfl (by kernel_rfl) args w
@[simp] theorem call48 (args:Array Value) (w:World):(callFunc 48 args).run prog w=.ok (.enter 48 args) w:=call_of Tryz.func48 rfl rfl (by kernel_rfl) args w
@[simp] theorem call49 (args:Array Value) (w:World):(callFunc 49 args).run prog w=.ok (.enter 49 args) w:=call_of Tryz.func49 rfl rfl (by kernel_rfl) args w
@[simp] theorem call50 (args:Array Value) (w:World):(callFunc 50 args).run prog w=.ok (.enter 50 args) w:=call_of Tryz.func50 rfl rfl (by kernel_rfl) args w
@[simp] theorem call51 (args:Array Value) (w:World):(callFunc 51 args).run prog w=.ok (.enter 51 args) w:=call_of Tryz.func51 rfl rfl (by kernel_rfl) args w
@[simp] theorem call52 (args:Array Value) (w:World):(callFunc 52 args).run prog w=.ok (.enter 52 args) w:=call_of Tryz.func52 rfl rfl (by kernel_rfl) args w
@[simp] theorem call53 (args:Array Value) (w:World):(callFunc 53 args).run prog w=.ok (.enter 53 args) w:=call_of Tryz.func53 rfl rfl (by kernel_rfl) args w
@[simp] theorem call54 (args:Array Value) (w:World):(callFunc 54 args).run prog w=.ok (.enter 54 args) w:=call_of Tryz.func54 rfl rfl (by kernel_rfl) args w
@[simp] theorem call55 (args:Array Value) (w:World):(callFunc 55 args).run prog w=.ok (.enter 55 args) w:=call_of Tryz.func55 rfl rfl (by kernel_rfl) args w
@[simp] theorem call56 (args:Array Value) (w:World):(callFunc 56 args).run prog w=.ok (.enter 56 args) w:=call_of Tryz.func56 rfl rfl (by kernel_rfl) args w
@[simp] theorem call57 (args:Array Value) (w:World):(callFunc 57 args).run prog w=.ok (.enter 57 args) w:=call_of Tryz.func57 rfl rfl (by kernel_rfl) args w
@[simp] theorem call58 (args:Array Value) (w:World):(callFunc 58 args).run prog w=.ok (.enter 58 args) w:=call_of Tryz.func58 rfl rfl (by kernel_rfl) args w
@[simp] theorem call59 (args:Array Value) (w:World):(callFunc 59 args).run prog w=.ok (.enter 59 args) w:=call_of Tryz.func59 rfl rfl (by kernel_rfl) args w
@[simp] theorem call60 (args:Array Value) (w:World):(callFunc 60 args).run prog w=.ok (.enter 60 args) w:=call_of Tryz.func60 rfl rfl (by kernel_rfl) args w
@[simp] theorem call61 (args:Array Value) (w:World):(callFunc 61 args).run prog w=.ok (.enter 61 args) w:=call_of Tryz.func61 rfl rfl (by kernel_rfl) args w
@[simp] theorem call74 (args:Array Value) (w:World):(callFunc 74 args).run prog w=.ok (.enter 74 args) w:=call_of Tryz.func74 rfl rfl (by kernel_rfl) args w
@[simp] theorem call75 (args:Array Value) (w:World):(callFunc 75 args).run prog w=.ok (.enter 75 args) w:=call_of Tryz.func75 rfl rfl (by kernel_rfl) args w
@[simp] theorem call76 (args:Array Value) (w:World):(callFunc 76 args).run prog w=.ok (.enter 76 args) w:=call_of Tryz.func76 rfl rfl (by kernel_rfl) args w
@[simp] theorem call77 (args:Array Value) (w:World):(callFunc 77 args).run prog w=.ok (.enter 77 args) w:=call_of Tryz.func77 rfl rfl (by kernel_rfl) args w
@[simp] theorem call78 (args:Array Value) (w:World):(callFunc 78 args).run prog w=.ok (.enter 78 args) w:=call_of Tryz.func78 rfl rfl (by kernel_rfl) args w
@[simp] theorem call79 (args:Array Value) (w:World):(callFunc 79 args).run prog w=.ok (.enter 79 args) w:=call_of Tryz.func79 rfl rfl (by kernel_rfl) args w
@[simp] theorem call80 (args:Array Value) (w:World):(callFunc 80 args).run prog w=.ok (.enter 80 args) w:=call_of Tryz.func80 rfl rfl (by kernel_rfl) args w
@[simp] theorem call82 (args:Array Value) (w:World):(callFunc 82 args).run prog w=.ok (.enter 82 args) w:=call_of Tryz.func82 rfl rfl (by kernel_rfl) args w
@[simp] theorem call83 (args:Array Value) (w:World):(callFunc 83 args).run prog w=.ok (.enter 83 args) w:=call_of Tryz.func83 rfl rfl (by kernel_rfl) args w
@[simp] theorem call84 (args:Array Value) (w:World):(callFunc 84 args).run prog w=.ok (.enter 84 args) w:=call_of Tryz.func84 rfl rfl (by kernel_rfl) args w
@[simp] theorem call85 (args:Array Value) (w:World):(callFunc 85 args).run prog w=.ok (.enter 85 args) w:=call_of Tryz.func85 rfl rfl (by kernel_rfl) args w
@[simp] theorem call86 (args:Array Value) (w:World):(callFunc 86 args).run prog w=.ok (.enter 86 args) w:=call_of Tryz.func86 rfl rfl (by kernel_rfl) args w
@[simp] theorem call87 (args:Array Value) (w:World):(callFunc 87 args).run prog w=.ok (.enter 87 args) w:=call_of Tryz.func87 rfl rfl (by kernel_rfl) args w
@[simp] theorem call88 (args:Array Value) (w:World):(callFunc 88 args).run prog w=.ok (.enter 88 args) w:=call_of Tryz.func88 rfl rfl (by kernel_rfl) args w
@[simp] theorem call89 (args:Array Value) (w:World):(callFunc 89 args).run prog w=.ok (.enter 89 args) w:=call_of Tryz.func89 rfl rfl (by kernel_rfl) args w
@[simp] theorem call90 (args:Array Value) (w:World):(callFunc 90 args).run prog w=.ok (.enter 90 args) w:=call_of Tryz.func90 rfl rfl (by kernel_rfl) args w
@[simp] theorem call91 (args:Array Value) (w:World):(callFunc 91 args).run prog w=.ok (.enter 91 args) w:=call_of Tryz.func91 rfl rfl (by kernel_rfl) args w
@[simp] theorem call92 (args:Array Value) (w:World):(callFunc 92 args).run prog w=.ok (.enter 92 args) w:=call_of Tryz.func92 rfl rfl (by kernel_rfl) args w
@[simp] theorem call93 (args:Array Value) (w:World):(callFunc 93 args).run prog w=.ok (.enter 93 args) w:=call_of Tryz.func93 rfl rfl (by kernel_rfl) args w
@[simp] theorem call94 (args:Array Value) (w:World):(callFunc 94 args).run prog w=.ok (.enter 94 args) w:=call_of Tryz.func94 rfl rfl (by kernel_rfl) args w
@[simp] theorem call95 (args:Array Value) (w:World):(callFunc 95 args).run prog w=.ok (.enter 95 args) w:=call_of Tryz.func95 rfl rfl (by kernel_rfl) args w
@[simp] theorem call96 (args:Array Value) (w:World):(callFunc 96 args).run prog w=.ok (.enter 96 args) w:=call_of Tryz.func96 rfl rfl (by kernel_rfl) args w
@[simp] theorem call97 (args:Array Value) (w:World):(callFunc 97 args).run prog w=.ok (.enter 97 args) w:=call_of Tryz.func97 rfl rfl (by kernel_rfl) args w
@[simp] theorem call104 (args:Array Value) (w:World):(callFunc 104 args).run prog w=.ok (.enter 104 args) w:=call_of Tryz.func104 rfl rfl (by kernel_rfl) args w
@[simp] theorem call105 (args:Array Value) (w:World):(callFunc 105 args).run prog w=.ok (.enter 105 args) w:=call_of Tryz.func105 rfl rfl (by kernel_rfl) args w
@[simp] theorem call106 (args:Array Value) (w:World):(callFunc 106 args).run prog w=.ok (.enter 106 args) w:=call_of Tryz.func106 rfl rfl (by kernel_rfl) args w
@[simp] theorem call107 (args:Array Value) (w:World):(callFunc 107 args).run prog w=.ok (.enter 107 args) w:=call_of Tryz.func107 rfl rfl (by kernel_rfl) args w
@[simp] theorem call114 (args:Array Value) (w:World):(callFunc 114 args).run prog w=.ok (.enter 114 args) w:=call_of Tryz.func114 rfl rfl (by kernel_rfl) args w
@[simp] theorem call115 (args:Array Value) (w:World):(callFunc 115 args).run prog w=.ok (.enter 115 args) w:=call_of Tryz.func115 rfl rfl (by kernel_rfl) args w
@[simp] theorem call116 (args:Array Value) (w:World):(callFunc 116 args).run prog w=.ok (.enter 116 args) w:=call_of Tryz.func116 rfl rfl (by kernel_rfl) args w
@[simp] theorem call117 (args:Array Value) (w:World):(callFunc 117 args).run prog w=.ok (.enter 117 args) w:=call_of Tryz.func117 rfl rfl (by kernel_rfl) args w
@[simp] theorem call118 (args:Array Value) (w:World):(callFunc 118 args).run prog w=.ok (.enter 118 args) w:=call_of Tryz.func118 rfl rfl (by kernel_rfl) args w
@[simp] theorem call119 (args:Array Value) (w:World):(callFunc 119 args).run prog w=.ok (.enter 119 args) w:=call_of Tryz.func119 rfl rfl (by kernel_rfl) args w
@[simp] theorem call120 (args:Array Value) (w:World):(callFunc 120 args).run prog w=.ok (.enter 120 args) w:=call_of Tryz.func120 rfl rfl (by kernel_rfl) args w
@[simp] theorem call121 (args:Array Value) (w:World):(callFunc 121 args).run prog w=.ok (.enter 121 args) w:=call_of Tryz.func121 rfl rfl (by kernel_rfl) args w
@[simp] theorem call122 (args:Array Value) (w:World):(callFunc 122 args).run prog w=.ok (.enter 122 args) w:=call_of Tryz.func122 rfl rfl (by kernel_rfl) args w
@[simp] theorem call123 (args:Array Value) (w:World):(callFunc 123 args).run prog w=.ok (.enter 123 args) w:=call_of Tryz.func123 rfl rfl (by kernel_rfl) args w
@[simp] theorem call124 (args:Array Value) (w:World):(callFunc 124 args).run prog w=.ok (.enter 124 args) w:=call_of Tryz.func124 rfl rfl (by kernel_rfl) args w
@[simp] theorem call125 (args:Array Value) (w:World):(callFunc 125 args).run prog w=.ok (.enter 125 args) w:=call_of Tryz.func125 rfl rfl (by kernel_rfl) args w
@[simp] theorem call126 (args:Array Value) (w:World):(callFunc 126 args).run prog w=.ok (.enter 126 args) w:=call_of Tryz.func126 rfl rfl (by kernel_rfl) args w
@[simp] theorem call127 (args:Array Value) (w:World):(callFunc 127 args).run prog w=.ok (.enter 127 args) w:=call_of Tryz.func127 rfl rfl (by kernel_rfl) args w
@[simp] theorem call146 (args:Array Value) (w:World):(callFunc 146 args).run prog w=.ok (.enter 146 args) w:=call_of Tryz.func146 rfl rfl (by kernel_rfl) args w
@[simp] theorem call147 (args:Array Value) (w:World):(callFunc 147 args).run prog w=.ok (.enter 147 args) w:=call_of Tryz.func147 rfl rfl (by kernel_rfl) args w
@[simp] theorem call148 (args:Array Value) (w:World):(callFunc 148 args).run prog w=.ok (.enter 148 args) w:=call_of Tryz.func148 rfl rfl (by kernel_rfl) args w
@[simp] theorem call154 (args:Array Value) (w:World):(callFunc 154 args).run prog w=.ok (.enter 154 args) w:=call_of Tryz.func154 rfl rfl (by kernel_rfl) args w
@[simp] theorem call155 (args:Array Value) (w:World):(callFunc 155 args).run prog w=.ok (.enter 155 args) w:=call_of Tryz.func155 rfl rfl (by kernel_rfl) args w
@[simp] theorem call157 (args:Array Value) (w:World):(callFunc 157 args).run prog w=.ok (.enter 157 args) w:=call_of Tryz.func157 rfl rfl (by kernel_rfl) args w
@[simp] theorem call158 (args:Array Value) (w:World):(callFunc 158 args).run prog w=.ok (.enter 158 args) w:=call_of Tryz.func158 rfl rfl (by kernel_rfl) args w
@[simp] theorem call192 (args:Array Value) (w:World):(callFunc 192 args).run prog w=.ok (.enter 192 args) w:=call_of Tryz.func192 rfl rfl (by kernel_rfl) args w
@[simp] theorem call193 (args:Array Value) (w:World):(callFunc 193 args).run prog w=.ok (.enter 193 args) w:=call_of Tryz.func193 rfl rfl (by kernel_rfl) args w
theorem keep_has:((List.range 195).all fun f=>!keep f||(match Tryz.prog.funcs[f]? with|some fn=>fn.body.isSome&& !(fn.name == "runtime.NumGoroutine")|none=>true))=true:=by kernel_rfl
theorem keep_code:((List.range 195).all fun f=>!keep f||(match Tryz.prog.funcs[f]? with|some fn=>(match fn.body with|some b=>QQ Tryz.progTables b|none=>true)|none=>true))=true:=by kernel_rfl
theorem gone_cut:PT gone:=⟨rfl,rfl,by kernel_rfl,by kernel_rfl,by kernel_rfl⟩
theorem funcs_size:Tryz.prog.funcs.size=195:=by kernel_rfl
theorem cut:Go.Proofs.YtcpnkpogebjieaaGreat.Co.Cut Tryz.progTables Tryz.funcs funcs keep:=by
 have lt:∀f fn,Tryz.prog.funcs[f]? =some fn→f<195:=fun f fn h=>by
  have:=(Array.getElem?_eq_some_iff.1 h).1;rw[funcs_size]at this;exact this
 refine⟨⟨fun f hk=>?_,fun f fn hk h=>?_,fun f fn hk h=>?_⟩,fun f fn b hk h hb=>?_⟩
 ·rw[funcs_get,hk];simp only[if_true,Option.map_id']
 ·have h':Tryz.prog.funcs[f]? =some fn:=h;have:=List.all_eq_true.1 keep_has f (List.mem_range.2 (lt f fn h'));simp only[hk,h',Bool.not_true,Bool.false_or,Bool.and_eq_true,Bool.not_eq_true']at this;exact this
 ·rw[funcs_get,hk]at h
  cases hf:Tryz.funcs[f]? with
  |none=>rw[hf]at h;cases h
  |some x=>
   rw[hf]at h;simp only[Option.map_some,Bool.false_eq_true,if_false,Option.some.injEq]at h;rw[←h];exact gone_cut
 ·have h':Tryz.prog.funcs[f]? =some fn:=h;have:=List.all_eq_true.1 keep_code f (List.mem_range.2 (lt f fn h'));simp only[hk,h',hb,Bool.not_true,Bool.false_or]at this;exact this
end Go.Proofs.Cut
namespace Go.Proofs
abbrev Tryz.link:Go.Conc.Lib.WgLink:={add:=108,done:=110,wait:=112,relMerge:=128,disable:=129,enable:=130,inBubble:=131,associate:=132,fatal:=133,uOr:=134,uAdd:=135,raceRead:=136,uLoad:=137,uStore:=138,disassociate:=139,semrelease:=140,acquire:=141,isAssociated:=142,uCas:=143,raceWrite:=144,semacquire:=145,orU64:=149,addU64:=150,loadU64:=151,storeU64:=152,casU64:=153,tWgP:=157,tUP:=159,tAssoc:=161,tWg:=145,tAU:=142,tU64:=140,tUint:=165,tU32:=143,tPU32:=166,tPAU:=179,tPU64:=181,tNoCopy:=137,tANoCopy:=138,tAlign64:=139}
theorem Tryz.wgLib:Go.Conc.Lib.WgLib Tryz.prog Tryz.link:=
 ⟨Tryz.func108,Tryz.func110,Tryz.func112,Tryz.func128,Tryz.func129,Tryz.func130,Tryz.func131,Tryz.func132,Tryz.func133,Tryz.func134,Tryz.func135,Tryz.func136,Tryz.func137,Tryz.func138,Tryz.func139,Tryz.func140,Tryz.func141,Tryz.func142,Tryz.func143,Tryz.func144,Tryz.func145,Tryz.func149,Tryz.func150,Tryz.func151,Tryz.func152,Tryz.func153,Tryz.underlying157,Tryz.runUnderlying157,Tryz.sizeOf157,Tryz.isAgg157,Tryz.zeroValue157,Tryz.underlying159,Tryz.runUnderlying159,Tryz.sizeOf159,Tryz.isAgg159,Tryz.zeroValue159,Tryz.underlying161,Tryz.runUnderlying161,Tryz.sizeOf161,Tryz.isAgg161,Tryz.zeroValue161,Tryz.underlying145,Tryz.runUnderlying145,Tryz.sizeOf145,Tryz.isAgg145,Tryz.zeroValue145,Tryz.underlying142,Tryz.runUnderlying142,Tryz.sizeOf142,Tryz.isAgg142,Tryz.zeroValue142,Tryz.underlying140,Tryz.runUnderlying140,Tryz.sizeOf140,Tryz.isAgg140,Tryz.zeroValue140,Tryz.underlying165,Tryz.runUnderlying165,Tryz.sizeOf165,Tryz.isAgg165,Tryz.zeroValue165,Tryz.underlying143,Tryz.runUnderlying143,Tryz.sizeOf143,Tryz.isAgg143,Tryz.zeroValue143,Tryz.underlying166,Tryz.runUnderlying166,Tryz.sizeOf166,Tryz.isAgg166,Tryz.zeroValue166,Tryz.underlying179,Tryz.runUnderlying179,Tryz.sizeOf179,Tryz.isAgg179,Tryz.zeroValue179,Tryz.underlying181,Tryz.runUnderlying181,Tryz.sizeOf181,Tryz.isAgg181,Tryz.zeroValue181,Tryz.underlying0,Tryz.runUnderlying0,Tryz.sizeOf0,Tryz.isAgg0,Tryz.zeroValue0,Tryz.underlying3,Tryz.runUnderlying3,Tryz.sizeOf3,Tryz.isAgg3,Tryz.zeroValue3,Tryz.underlying4,Tryz.runUnderlying4,Tryz.sizeOf4,Tryz.isAgg4,Tryz.zeroValue4,Tryz.underlying9,Tryz.runUnderlying9,Tryz.sizeOf9,Tryz.isAgg9,Tryz.zeroValue9,Tryz.underlying20,Tryz.runUnderlying20,Tryz.sizeOf20,Tryz.isAgg20,Tryz.zeroValue20,Tryz.underlying21,Tryz.runUnderlying21,Tryz.sizeOf21,Tryz.isAgg21,Tryz.zeroValue21,by kernel_rfl,by kernel_rfl⟩
end Go.Proofs
namespace Go.Proofs.YtcpnkpogebjieaaGreat
namespace Co
open Go.Conc Go.ConcN
theorem QcN {Sh:Loc→Prop}{Own Own' Rd:Nat→Loc→Prop}{t:Trace}{j:Nat}(h:CT Sh Own Rd t j)(hs:∀k l,Own k l→Own' k l)(hn:∀k l,Own' k l→¬Own k l→∀i a,touchAt t i=some a→a.loc≠l):CT Sh Own' Rd t j:=by
 refine⟨h.quiet,fun k k1 kj l hl=>?_,h.rd,fun l hS hl=>h.free l hS fun k k1 kj=>⟨fun ho=>(hl k k1 kj).1 (hs k l ho),(hl k k1 kj).2⟩,fun l hS hl=>h.mine l hS fun k k1 kj ho=>hl k k1 kj (hs k l ho),h.nr,h.gs⟩;rcases Classical.em (Own k l)with ho|ho
 ·exact h.own k k1 kj l ho
 ·exact fun i a ha he=>absurd he (hn k l hl ho i a ha)
end Co
namespace Co
open Go.Conc Go.ConcN
open Go.ConcR (KK wgBlock WgAt stA smA rd wr mk Payload Aside2 DC0 Bk g_of_ofEvents again_blocked)
def RL (ty:TypeId)(Wg:Nat)(w w1:World):Prop:=WgLive ty Wg w→WgLive ty Wg w1
theorem rl {ty:TypeId}{Wg:Nat}{w w1:World}(h:WgLive ty Wg w)(r:RL ty Wg w w1):WgLive ty Wg w1:=r h
section
variable (P:Program)
def ZN (m:Mark)(Next:Goroutine→World→Prop)(g:Goroutine)(w:World):Prop:=
 g.status=.running∧∃g',stepG P true g w=.go g' w #[mk m]∧Next g' w
def Sil (ty:TypeId)(Wg:Nat)(Stop:Goroutine→World→Prop)(g:Goroutine)(w:World):Prop:=∃n,Goes P true (RL ty Wg) DC0 Stop n g w
def Kf (ty:TypeId)(Wg:Nat)(c:Frame)(cs:List Frame)(g:Goroutine)(w:World):Prop:=g=G (c.finish (.tuple #[])) cs∧WgLive ty Wg w
def QbX (ty:TypeId)(Wg:Nat)(Next:Goroutine→World→Prop)(g:Goroutine)(w:World):Prop:=
 g.status=.running∧∀v:Nat,v<1000000→WgAt ty Wg w (v*KK) 0→∃g',stepG P true g w=.go g' (w.setCell (stA Wg) (.int .u64 ((v+1:Nat)*KK))) #[rd (stA Wg),wr (stA Wg)]∧
  (v=0→Sil P ty Wg (ZN P (.read (smA Wg)) (Sil P ty Wg (ZN P .enable Next))) g' (w.setCell (stA Wg) (.int .u64 ((v+1:Nat)*KK))))∧
  (v≠0→Sil P ty Wg (ZN P .enable Next) g' (w.setCell (stA Wg) (.int .u64 ((v+1:Nat)*KK))))
end
section
variable (P:Program) (ty:TypeId) (Wg:Nat) (Anch Bk:Goroutine→World→Prop)
def UI:Goroutine→World→Prop:=Sil P ty Wg (ZN P .enable (Sil P ty Wg (ZN P (.acquire (stA Wg)) (Sil P ty Wg Bk))))
def Ua (g:Goroutine)(w:World):Prop:=g.status=.running∧(WgAt ty Wg w 0 0→∃g',stepG P true g w=.go g' w #[rd (stA Wg)]∧UI P ty Wg Bk g' w)
def Yv (g:Goroutine)(w:World):Prop:=
 g.status=.running∧g.offers=none∧((∃st,WgAt ty Wg w st 0)→stepG P true g w=.go {g with status:=.blocked} w #[])∧
  (WgAt ty Wg w 0 1→∃g',stepG P true g w=.go g' (w.setCell (smA Wg) (.int .u32 0)) (semEvents (smA Wg))∧Sil P ty Wg (Ua P ty Wg Bk) g' (w.setCell (smA Wg) (.int .u32 0)))
def Y9 (vs:Nat)(g:Goroutine)(w:World):Prop:=
 g.status=.running∧∀v:Nat,v<1000000→WgAt ty Wg w (v*KK) 0→
  (v=vs→∃g',stepG P true g w=.go g' (w.setCell (stA Wg) (.int .u64 (v*KK+1))) #[rd (stA Wg),wr (stA Wg)]∧Sil P ty Wg (ZN P (.write (smA Wg)) (Sil P ty Wg (Yv P ty Wg Bk))) g' (w.setCell (stA Wg) (.int .u64 (v*KK+1))))∧
  (v≠vs→∃g',stepG P true g w=.go g' w #[rd (stA Wg)]∧Sil P ty Wg Anch g' w)
def J4 (g:Goroutine)(w:World):Prop:=
 g.status=.running∧∀v:Nat,v<1000000→WgAt ty Wg w (v*KK) 0→∃g',stepG P true g w=.go g' w #[rd (stA Wg)]∧(v=0→UI P ty Wg Bk g' w)∧(v≠0→Sil P ty Wg (Y9 P ty Wg Anch Bk v) g' w)
end
end Co
end Go.Proofs.YtcpnkpogebjieaaGreat
