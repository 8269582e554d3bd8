/- Frames that the cut lets by; a run that is lost. -/
import Derived.Conc.Listed
import Derived.Test.YtcpnkpogebjieaaGreatS03Ti
open List renaming mem_cons_of_mem→QhR,mem_cons_self→QhS
open Nat renaming le_refl→QhT
namespace Go.Proofs.YtcpnkpogebjieaaGreat
namespace Co
open Go.Conc
def QQ (T:Tables):Code→Bool
 | .region _ ops _=>ops.all fun o=>UA T o.op
 | .seq a b| .cond _ a b| .rangeFunc _ _ a b=>QQ T a&&QQ T b
 | .block _ c| .loop c| .scope c=>QQ T c
 |_=>true
def Z5 (T:Tables)(X:Nat→Bool):Item→Prop
 | .code c| .inLoop c| .inScope c=>QQ T c=true
 | .inBlock _| .beginRound=>True
 | .inRegion ops _=>(ops.all fun o=>UA T o.op)=true
 | .inRangeFunc l| .endRangeFunc l=>X l=false
 | .call _ _ _ _| .extern _ _=>False
def LOk (T:Tables)(S:FuncId→Bool)(l:Loop):Prop:=S l.fn=true∧QQ T l.assign=true∧QQ T l.body=true∧∀c,l.pending=some c→QQ T c=true
def Uc (X:Nat→Bool)(d:Deferred):Prop:=∃r,d.target=.collected r∧X r=false
structure FOk (T:Tables) (S:FuncId→Bool) (X:Nat→Bool) (fr:Frame):Prop where
 fn:S fr.fn=true
 todo:∀i∈fr.todo,Z5 T X i
 defers:∀d∈fr.defers,Uc X d
 kind:fr.kind=.normal
 round:∀l,fr.roundOf=some l→X l=false
def MOk (T:Tables)(S:FuncId→Bool)(X:Nat→Bool)(mid:List Frame):Prop:=∀c∈mid,FOk T S X c∧c.mode=.run
def c0:Frame:={fn:=0,tmps:=#[],todo:=[.code (.refuse "")],defers:=[{target:=.nil,args:=#[]}],mode:=.run,kind:=.normal}
section
variable {T:Tables} {S:FuncId→Bool} {X:Nat→Bool}
theorem KT {id:Nat}:∀ {k k':List Item},exitTo id k=some k'→∀i∈k',i∈k
 | [],k',h=>by simp[exitTo]at h
 |x::k,k',h=>by
  intro i hi;unfold exitTo at h;split at h
  ·rename_i h0
   cases h0
   split at h
   ·cases h;exact QhR _ hi
   ·exact QhR _ (KT h i hi)
  ·rename_i h0
   cases h0
   exact QhR _ (KT h i hi)
  ·rename_i h0;cases h0
theorem KU {l:Nat}:∀ {c c':Code},QQ T c=true→findLabel c l=some c'→QQ T c'=true
 | .seq a b,c',hc,h=>by
   simp only[QQ,Bool.and_eq_true]at hc;simp only[findLabel]at h;split at h
   ·rename_i r hr
    cases h
    simp only[QQ,Bool.and_eq_true];exact⟨KU hc.1 hr,hc.2⟩
   ·exact KU hc.2 h
 | .label l',c',_,h=>by
   simp only[findLabel]at h;split at h
   ·cases h;rfl
   ·cases h
 | .skip,_,_,h| .region _ _ _,_,_,h| .cond _ _ _,_,_,h| .block _ _,_,_,h| .loop _,_,_,h| .rangeFunc _ _ _ _,_,_,h| .exit _,_,_,h| .goto _,_,_,h| .ret,_,_,h| .refuse _,_,_,h| .scope _,_,_,h=>by simp[findLabel]at h
theorem KZ {l:Nat}:∀ {k k':List Item},(∀i∈k,Z5 T X i)→gotoIn l k=some k'→∀i∈k',Z5 T X i
 | [],k',_,h=>by simp[gotoIn]at h
 |x::k,k',hk,h=>by
  unfold gotoIn at h;split at h
  ·rename_i h0
   cases h0
   split at h
   ·rename_i rest hr
    cases h
    have hb:QQ T _=true:=hk _ (QhS ..);intro i hi;rcases List.mem_cons.1 hi with rfl|hi
    ·exact KU hb hr
    ·exact hk i hi
   ·exact KZ (fun i hi=>hk i (QhR _ hi)) h
  ·rename_i h0
   cases h0
   exact KZ (fun i hi=>hk i (QhR _ hi)) h
  ·rename_i h0;cases h0
theorem FOk.to {fr:Frame}(h:FOk T S X fr){k:List Item}(hk:∀i∈k,Z5 T X i):FOk T S X {fr with todo:=k}:=⟨h.fn,hk,h.defers,h.kind,h.round⟩
theorem FOk.finish {fr:Frame}(h:FOk T S X fr)(v:Value):FOk T S X (fr.finish v)∧(fr.finish v).mode=fr.mode:=by
 have ht:=h.todo;unfold Frame.finish;split
 ·rename_i ops i rest k hk;rw[hk]at ht
  exact⟨⟨h.fn,fun j hj=>by
   rcases List.mem_cons.1 hj with rfl|hj
   ·exact ht (.inRegion ops (i::rest)) (QhS ..)
   ·exact ht j (QhR _ hj),h.defers,h.kind,h.round⟩,rfl⟩
 ·rename_i l k hk;rw[hk]at ht
  exact⟨⟨h.fn,fun j hj=>by
   rcases List.mem_cons.1 hj with rfl|hj
   ·exact ht (.inRangeFunc l) (QhS ..)
   ·exact ht j (QhR _ hj),h.defers,h.kind,h.round⟩,rfl⟩
 ·rename_i k hk;rw[hk]at ht;exact⟨⟨h.fn,fun j hj=>ht j (QhR _ hj),h.defers,h.kind,h.round⟩,rfl⟩
 ·rename_i hk;rw[hk]at ht;exact(ht _ (QhS ..)).elim
 ·rename_i hk;rw[hk]at ht;exact(ht _ (QhS ..)).elim
 ·exact⟨h,rfl⟩
def YQ (T:Tables)(S:FuncId→Bool)(X:Nat→Bool)(g:Goroutine):Prop:=
 (∃fr mid chain,g=G fr (mid++ [c0])∧fr.mode=.panicking chain∧(∀d∈fr.defers,Uc X d)∧MOk T S X mid)∨(∃chain,g=G (c0.raise chain) [])∨∃v,g=G (c0.finish v) []
theorem KL {fr:Frame}{mid:List Frame}(h:∀d∈fr.defers,Uc X d)(hm:MOk T S X mid)(vs:List PanicEntry):YQ T S X (G (fr.raise vs) (mid++ [c0])):=by
 unfold Frame.raise;split
 ·exact .inl ⟨_,mid,_,rfl,rfl,h,hm⟩
 ·exact .inl ⟨_,mid,_,rfl,rfl,h,hm⟩
theorem QdK {P':Program}{g g1:Goroutine}{w w1:World}{es:Array Event}(hW:WOk (LOk T S) w)(hg:YQ T S X g)(hs:stepG P' true g w=.go g1 w1 es):YQ T S X g1∧WOk (LOk T S) w1:=by
 rcases hg with⟨fr,mid,chain,rfl,hm,hd,hmid⟩|⟨chain,rfl⟩|⟨v,rfl⟩
 ·have e:stepG P' true (G fr (mid++ [c0])) w=unwind P' true fr (mid++ [c0]) none w:=by simp[stepG,G,hm]
  rw[e]at hs;unfold unwind at hs;split at hs
  ·rename_i block args ds hds;rw[hds]at hd;rw[Sem.runT_eq]at hs;simp only at hs
   have hrun:∀calls w2,(Instr.takeDeferred block).run P' w=.ok calls w2→calls=[]∧WOk (LOk T S) w2:=by
    intro calls w2 hr;unfold Instr.takeDeferred at hr
    cases hb:w.heap[block]? with
    |none=>simp[getObj,Sem.run,hb,Result.andThen]at hr
    |some o=>
     cases o with
     |deferred c=>
      cases c with
      |none=>simp[getObj,Sem.run,hb,Result.andThen,stuck]at hr
      |some ds=>
       simp[getObj,setObj,Sem.run,hb,Result.andThen]at hr;obtain⟨rfl,rfl⟩:=hr;exact⟨hW _ _ hb,hW.put trivial⟩
     |_=>simp[getObj,Sem.run,hb,Result.andThen,stuck]at hr
   cases hr:(Instr.takeDeferred block).run P' w with
   |halt h w2=>rw[hr]at hs;simp[GStep.after]at hs
   |ok calls w2=>
    rw[hr]at hs;obtain⟨rfl,hw2⟩:=hrun calls w2 hr;simp only[GStep.after,GStep.go.injEq]at hs;obtain⟨rfl,rfl,_⟩:=hs;exact⟨.inl ⟨_,mid,chain,rfl,hm,fun d hd'=>hd d (QhR _ (by simpa using hd')),hmid⟩,hw2⟩
  ·rename_i d ds hn hds;obtain⟨r,hr,_⟩:=hd d (by rw[hds];exact QhS ..)
   exact absurd hr (by
    intro h
    exact hn r d.args (by cases d;simp_all))
  ·rw[hm]at hs;simp only at hs;split at hs
   ·cases hs
   ·cases mid with
    |nil=>
     simp only[List.nil_append,GStep.go.injEq]at hs;obtain⟨rfl,rfl,_⟩:=hs;exact⟨.inr (.inl ⟨chain,rfl⟩),hW⟩
    |cons c mid=>
     simp only[List.cons_append,GStep.go.injEq]at hs;obtain⟨rfl,rfl,_⟩:=hs;have hc:=hmid c (QhS ..);exact⟨KL hc.1.defers (fun x hx=>hmid x (QhR _ hx)) chain,hW⟩
 ·exfalso
  have:stepG P' true (G (c0.raise chain) []) w=.ended (.unsupported (.noEntry "machine/Return: a deferred call of a nil function value, made while the frame is unwinding") (({c0.raise chain with defers:=[]}:Frame).pos P')) w:=by
   simp[stepG,G,c0,Frame.raise,unwind,callDeferred]
  rw[this]at hs
  cases hs
 ·exfalso
  have:∃o,stepG P' true (G (c0.finish v) []) w=.ended o w:=by
   simp[stepG,G,c0,Frame.finish,stepG.exec]
  obtain⟨o,ho⟩:=this;rw[ho]at hs
  cases hs
end
section
variable {T:Tables} {F F':Array Func} {S:FuncId→Bool} {X:Nat→Bool}
theorem V4 (l:Nat)(_hX:X l=false):Tr (PP T F) (PP T F') (LOk T S) X (fun r=>LOk T S r) (Instr.getLoop l) (Instr.getLoop l):=by
 unfold Instr.getLoop;refine PH l (fun o _ ho=>?_) (fun a t s=>Z0 _ _) (fun s=>Z0 _ _)
 cases o with
 |loop r=>exact Q7 r ho
 |_=>exact Z0 _ _
theorem Qbf (fn:FuncId)(tmps:Array Value)(params:Array Tmp)(a b:Code)(around:Option Nat)(hS:S fn=true)(ha:QQ T a=true)(hb:QQ T b=true)(hr:∀l,around=some l→X l=false):
 Tr (PP T F) (PP T F') (LOk T S) X (fun r=>X r.1=false∧∀d∈r.2,Uc X d) (Instr.enterLoop fn tmps params a b around) (Instr.enterLoop fn tmps params a b around):=by
 unfold Instr.enterLoop
 cases around with
 |some l=>
  refine Zs (V4 l (hr l rfl)) fun r _=>?_;refine Zs (Q7 (Q:=fun x:Nat×List Deferred=>x.2=[]) _ rfl) fun x hx=>?_;obtain⟨d,m⟩:=x;dsimp only at hx;subst hx;refine Zs (UC (Q:=fun r=>X r=false) (show LOk T S _ from⟨hS,ha,hb,fun c hc=>by cases hc⟩) fun _ h=>h) fun r hr=>Q7 _ ⟨hr,fun d hd=>by cases hd⟩
 |none=>
  refine Zs (UC (Q:=fun r=>X r=false) (show([]:List Deferred)=[]from rfl) fun _ h=>h) fun r0 hr0=>?_
  refine Zs (Q7 (Q:=fun x:Nat×List Deferred=>∀d∈x.2,Uc X d) _ (fun d hd=>by
   rcases List.mem_cons.1 hd with rfl|hd
   ·exact⟨r0,rfl,hr0⟩
   ·cases hd)) fun x hx=>?_
  obtain⟨d,m⟩:=x;refine Zs (UC (Q:=fun r=>X r=false) (show LOk T S _ from⟨hS,ha,hb,fun c hc=>by cases hc⟩) fun _ h=>h) fun r hr=>Q7 _ ⟨hr,hx⟩
theorem Oq (l:Nat)(hX:X l=false):D T F F' (LOk T S) X (Instr.beginRound l):=by
 unfold Instr.beginRound;refine⟨Zs (V4 l hX) fun r hr=>Zs (Q:=fun _=>True) (UD l hX (show LOk T S _ from hr) trivial) fun _ _=>D.tr ?_⟩;split
 ·exact Qd _
 ·exact QG _
 ·exact QG _
 ·exact QG _
theorem Qc3 (l:Nat)(hX:X l=false)(j:Option Code)(hj:∀c,j=some c→QQ T c=true):D T F F' (LOk T S) X (Instr.endRound l j):=by
 unfold Instr.endRound;exact⟨Zs (V4 l hX) fun r hr=>Zs (Q:=fun _=>True) (UD l hX (show LOk T S _ from⟨hr.1,hr.2.1,hr.2.2.1,hj⟩) trivial) fun _ _=>Q7 _ trivial⟩
theorem Qg1 (l:Nat)(hX:X l=false):Tr (PP T F) (PP T F') (LOk T S) X (fun r=>∀c,r=some c→QQ T c=true) (Instr.endLoop l) (Instr.endLoop l):=by
 unfold Instr.endLoop;refine Zs (V4 l hX) fun r hr=>?_
 have key:Tr (PP T F) (PP T F') (LOk T S) X (fun r=>∀c,r=some c→QQ T c=true) (do setObj l (.loop {r with state:=.exhausted});pure r.pending) (do setObj l (.loop {r with state:=.exhausted});pure r.pending):=
  Zs (Q:=fun _=>True) (UD l hX (show LOk T S _ from hr) trivial) fun _ _=>Q7 _ hr.2.2.2
 dsimp only;split
 ·exact JK (Uy (J0 _)) _
 ·exact key
theorem Qg2 (b:Nat)(hX:X b=false):Tr (PP T F) (PP T F') (LOk T S) X (fun r=>r=[]) (Instr.takeDeferred b) (Instr.takeDeferred b):=by
 unfold Instr.takeDeferred;refine PH b (fun o _ ho=>?_) (fun a t s=>Z0 _ _) (fun s=>Z0 _ _)
 cases o with
 |deferred c=>
  cases c with
  |none=>exact Z0 _ _
  |some ds=>exact Zs (Q:=fun _=>True) (UD b hX trivial trivial) fun _ _=>Q7 _ ho
 |_=>exact Z0 _ _
theorem KF (fn:Func)(tmps:Array Value):D T F F' (LOk T S) X (results fn tmps):=by
 unfold results;refine Qc (Ow _ (fun x=>?_) _) fun _=>Qd _
 cases x with
 |tmp t=>exact Qd _
 |cell a t=>exact Qc (Zg _) fun _=>Zm _ _
end
section
variable {P:Program} {fr:Frame} {cs:List Frame} {w w1:World} {g1:Goroutine} {es:Array Event}
theorem QdX {g:Nat}(h:early P fr cs none g w=.go g1 w1 es):w.drawn≤w1.drawn:=by
 have hn:∀w2:World,w.drawn≤w2.drawn→(match w2.heap[g]? with
  |some (.pending c elem)=>GStep.go {frame:=fr,callers:=cs,status:=.running,dying:=none} {w2 with heap:=w2.heap.setIfInBounds g (.cells c elem)}
  |_=>.ended (.stuck "early: the variable does not wait" (fr.pos P)) w2)=.go g1 w1 es→w.drawn≤w1.drawn:=by
  intro w2 hle h;split at h
  ·cases h;exact hle
  ·cases h
 unfold early at h;dsimp only at h;split at h
 ·exact hn w (QhT _) h
 ·split at h
  ·cases h
  ·split at h
   ·exact hn w (QhT _) h
   ·split at h
    ·exact hn w (QhT _) h
    ·split at h
     ·cases h
     ·cases h;exact QhT _
     ·cases h
     ·exact hn w (QhT _) h
     ·split at h
      ·cases h;exact QhT _
      ·split at h
       ·exact hn w (QhT _) h
       ·have hm:=(J2 P (choose (.early g)) w).1;split at h
        ·rename_i hr;rw[hr]at hm;exact hn _ hm h
        ·rename_i hr;rw[hr]at hm;cases h;exact hm
        ·cases h
theorem Qd0 {m:String}{fr1:Frame}{cs1:List Frame}:endFatal P fr cs none m w≠.go (G fr1 cs1) w1 es:=by
 intro h;unfold endFatal at h;dsimp only at h;split at h
 ·unfold dieOf at h
  repeat' split at h
  all_goals first|(cases h;done)|(simp[G]at h;done)
 all_goals first|(cases h;done)|(simp[G]at h;done)
theorem Qd1 {m:String}{fr1:Frame}{cs1:List Frame}:endThrow fr m w≠.go (G fr1 cs1) w1 es:=by
 intro h;unfold endThrow dieOf at h
 repeat' split at h
 all_goals first|(cases h;done)|(simp[G]at h;done)
theorem Z1 {es0:Array Event}{s:GStep}(h:GStep.after es0 s=.go g1 w1 es):∃es1,s=.go g1 w1 es1∧es=es0++es1:=by
 cases s<;>simp only[GStep.after,GStep.go.injEq]at h<;>first|(cases h;done)|(obtain⟨rfl,rfl,rfl⟩:=h;exact⟨_,rfl,rfl⟩)
theorem Vj {s:Sem Next}{fr1:Frame}{cs1:List Frame}(h:stepG.apply P true fr cs none s w=.go (G fr1 cs1) w1 es):(rw (s.run P w)).drawn≤w1.drawn:=by
 unfold stepG.apply at h;simp only[if_true,Sem.runT_eq]at h
 cases hr:s.run P w with
 |ok n w2=>
  rw[hr]at h;obtain⟨es1,h,_⟩:=Z1 h
  cases n<;>simp only at h<;>(repeat' split at h)<;>first
   |(cases h;done)
   |(simp only[GStep.go.injEq]at h;obtain⟨_,rfl,_⟩:=h;exact QhT _)
 |halt x w2=>
  rw[hr]at h;obtain⟨es1,h,_⟩:=Z1 h;show w2.drawn≤w1.drawn
  cases x with
  |unsupported u=>
   cases u<;>simp only at h<;>first
    |exact QdX h
    |(cases h;done)
  |fatal m=>exact absurd h Qd0
  |throw m=>exact absurd h Qd1
  |exit c=>cases h
  |stuck s=>cases h
  |_=>
   simp only[GStep.go.injEq]at h;obtain⟨_,rfl,_⟩:=h;exact QhT _
end
structure Cut (T:Tables) (F F':Array Func) (S:FuncId→Bool):Prop where
 of:Ud F F' S
 code:∀f fn b,S f=true→F[f]? =some fn→fn.body=some b→QQ T b=true
def J7 (T:Tables)(S:FuncId→Bool)(X:Nat→Bool)(cs0:List Frame)(w w':World)(g1':Goroutine)(w1':World)(comp:GStep):Prop:=
 (∃fr1 mid1 w1 es,g1'=G fr1 (mid1++ [c0])∧comp=.go (G fr1 (mid1++cs0)) w1 es∧FOk T S X fr1∧(fr1.mode=.run∨fr1.mode=.returning)∧MOk T S X mid1∧Em X w1 w1'∧QB X w w1∧WOk (LOk T S) w1'∧
   Dr w w' w1 w1'∧∀B,w1.heap.size≤B→∀e∈es,Ev X B e)∨YQ T S X g1'∧WOk (LOk T S) w1'
def JM (w w':World)(comp:GStep):Prop:=∀k,(∀fr1 cs1 w1 es,comp=.go (G fr1 cs1) w1 es→w.drawn+k<w1.drawn)→w'.tape (w'.drawn+k)=w.tape (w.drawn+k)
section
variable {T:Tables} {F F':Array Func} {S:FuncId→Bool} {X:Nat→Bool} {cs0:List Frame}
theorem OT (hC:Cut T F F' S){f:FuncId}{args:Array Value}(hS:S f=true):FOk T S X (Frame.enter (PP T F) f args .normal)∧Frame.enter (PP T F') f args .normal=Frame.enter (PP T F) f args .normal:=by
 have e:(PP T F').funcs[f]? =(PP T F).funcs[f]? :=hC.of.same f hS;refine⟨⟨hS,fun i hi=>?_,fun d hd=>by simp[Frame.enter]at hd,rfl,fun l hl=>by simp[Frame.enter]at hl⟩,by simp only[Frame.enter,e]⟩;simp only[Frame.enter,List.mem_singleton]at hi;subst hi;show QQ T _=true
 cases hf:(PP T F).funcs[f]? with
 |none=>rfl
 |some fn=>
  cases hb:fn.body with
  |none=>simp[hb,QQ]
  |some b=>simpa[hb]using hC.code f fn b hS hf hb
theorem Kn (hC:Cut T F F' S){s:Sem Next}(hs:Tr (PP T F) (PP T F') (LOk T S) X (NOk (LOk T S) X S) s s){fr:Frame}{mid:List Frame}(hf:FOk T S X fr)(hrun:fr.mode=.run)(hm:MOk T S X mid)
 {w w':World}(hE:Em X w w')(hX:XOk X w)(hW:WOk (LOk T S) w')(ht:JM w w' (stepG.apply (PP T F) true fr (mid++cs0) none s w))
 {g1':Goroutine}{w1':World}{es':Array Event}(hl:stepG.apply (PP T F') true fr (mid++ [c0]) none s w'=.go g1' w1' es'):
 J7 T S X cs0 w w' g1' w1' (stepG.apply (PP T F) true fr (mid++cs0) none s w):=by
 obtain⟨ok,bad⟩:=hs w w' hE hX hW (fun k hk=>ht k fun fr1 cs1 w1 es h=>Nat.lt_of_lt_of_le hk (Vj h));unfold stepG.apply at hl;simp only[if_true,Sem.runT_eq]at hl
 cases hr:s.run (PP T F') w' with
 |halt h w2'=>
  obtain⟨hh,hw⟩:=bad h w2' hr;rw[hr]at hl;obtain⟨es1,hl,_⟩:=Z1 hl
  cases h with
  |panic v=>
   simp only[GStep.go.injEq]at hl;obtain⟨rfl,rfl,_⟩:=hl;exact .inr ⟨KL hf.defers hm _,hw⟩
  |stuck s=>cases hl
  |unsupported u=>
   cases u<;>simp only at hl<;>first|(cases hl;done)|exact hh.elim
  |_=>exact hh.elim
 |ok n w2'=>
  obtain⟨w2,e1,e2,e3,e4,e5,e6,e7⟩:=ok n w2' hr;rw[hr]at hl;obtain⟨es1,hl1,hes⟩:=Z1 hl;clear hes hl;have hl:=hl1;clear hl1;have hk:(fr.kind ==CallKind.early)=false:=by rw[hf.kind];rfl
  have hcomp:∀g,(match n with
   | .value v=>g=G (fr.finish v) (mid++cs0)
   | .skip=>g=G (fr.finish undef) (mid++cs0)
   | .enter f args=>g=G (Frame.enter (PP T F) f args .normal) (fr::(mid++cs0))
   | .round l f tmps a b=>g=G (Frame.round l f tmps a b .normal) (fr::(mid++cs0))
   |_=>False)→stepG.apply (PP T F) true fr (mid++cs0) none s w=.go g w2 (seen (PP T F) fr.fn (s.events (PP T F) w #[])++ #[]):=by
   intro g hg;unfold stepG.apply;simp only[if_true,Sem.runT_eq,e1,hk,Bool.false_eq_true,if_false]
   cases n<;>simp only at hg<;>first
    |exact hg.elim
    |(subst hg;rfl)
    |(subst hg
      dsimp only;split
      ·rename_i hx;have:=hf.todo;rw[hx]at this;exact(this _ (QhS ..)).elim
      ·rfl)
  have hev:∀B,w2.heap.size≤B→∀e∈seen (PP T F) fr.fn (s.events (PP T F) w #[])++ #[],Ev X B e:=by
   intro B hB e he;rw[Array.append_empty]at he;exact e7 B hB #[] (fun e he=>by simp at he) e (mem_seen he)
  cases n<;>simp only[NOk]at e6<;>try exact e6.elim
  case value v=>
   simp only[GStep.go.injEq]at hl;obtain⟨rfl,rfl,_⟩:=hl;have hfin:=hf.finish v;exact .inl ⟨_,mid,w2,_,rfl,hcomp _ rfl,hfin.1,.inl (hfin.2.trans hrun),hm,e2,e3,e4,e5,hev⟩
  case skip=>
   simp only[GStep.go.injEq]at hl;obtain⟨rfl,rfl,_⟩:=hl;have hfin:=hf.finish undef;exact .inl ⟨_,mid,w2,_,rfl,hcomp _ rfl,hfin.1,.inl (hfin.2.trans hrun),hm,e2,e3,e4,e5,hev⟩
  case enter f args=>
   dsimp only at hl;split at hl
   ·rename_i hx;have:=hf.todo;rw[hx]at this;exact(this _ (QhS ..)).elim
   simp only[GStep.go.injEq]at hl;obtain⟨rfl,rfl,_⟩:=hl;obtain⟨h1,h2⟩:=OT (X:=X) (args:=args) hC e6;refine .inl ⟨_,fr::mid,w2,_,?_,hcomp _ rfl,h1,.inl rfl,?_,e2,e3,e4,e5,hev⟩
   ·rw[h2];rfl
   ·intro c hc;rcases List.mem_cons.1 hc with rfl|hc
    ·exact⟨hf,hrun⟩
    ·exact hm c hc
  case round l f tmps a b=>
   simp only[GStep.go.injEq]at hl;obtain⟨rfl,rfl,_⟩:=hl;obtain⟨hXl,r,hlo,rfl,rfl,rfl⟩:=e6;refine .inl ⟨_,fr::mid,w2,_,rfl,hcomp _ rfl,⟨hlo.1,?_,fun d hd=>by simp[Frame.round]at hd,rfl,fun l' hl'=>by simp[Frame.round]at hl';subst hl';exact hXl⟩,.inl rfl,?_,e2,e3,e4,e5,hev⟩
   ·intro i hi;simp only[Frame.round,List.mem_cons,List.not_mem_nil,or_false]at hi;rcases hi with rfl|rfl|rfl
    ·exact hlo.2.1
    ·trivial
    ·exact hlo.2.2.1
   ·intro c hc;rcases List.mem_cons.1 hc with rfl|hc
    ·exact⟨hf,hrun⟩
    ·exact hm c hc
end
end Co
end Go.Proofs.YtcpnkpogebjieaaGreat
