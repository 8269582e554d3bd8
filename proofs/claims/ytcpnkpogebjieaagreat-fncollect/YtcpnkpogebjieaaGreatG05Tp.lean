/- One step of goroutine 0, in two worlds at once: what an operation does. -/
import Derived.Test.YtcpnkpogebjieaaGreatG04Tl
open List renaming mem_cons_self→Qhp,mem_cons_of_mem→Qhq
namespace Go.Proofs.YtcpnkpogebjieaaGreat
namespace Co
open Go.Conc
structure Cut (T:Tables) (F F':Array Func) (S:FuncId→Bool):Prop where
 of:YX F F' S
 code:∀f fn b,S f=true→F[f]? =some fn→fn.body=some b→QO T b=true
def JZ (T:Tables)(S:FuncId→Bool)(X:Nat→Bool)(cs0:List Frame)(w w':World)(g1':Goroutine)(w1':World)(comp:GStep):Prop:=
 (∃fr1 mid1 w1 es,g1'=G fr1 (mid1++ [c0])∧comp=.go (G fr1 (mid1++cs0)) w1 es∧FOk T S X fr1∧(fr1.mode=.run∨fr1.mode=.returning)∧MOk T S X mid1∧Em X w1 w1'∧Qy X w w1∧WOk (LOk T S) w1'∧
   Dr w w' w1 w1'∧∀B,w1.heap.size≤B→∀e∈es,Ev X B e)∨YH T S X g1'∧WOk (LOk T S) w1'
def JD (w w':World)(comp:GStep):Prop:=∀k,(∀fr1 cs1 w1 es,comp=.go (G fr1 cs1) w1 es→w.drawn+k<w1.drawn)→w'.tape (w'.drawn+k)=w.tape (w.drawn+k)
section
variable {T:Tables} {F F':Array Func} {S:FuncId→Bool} {X:Nat→Bool} {cs0:List Frame}
theorem Oe (hC:Cut T F F' S){f:FuncId}{args:Array Value}(hS:S f=true):FOk T S X (Frame.enter (PP T F) f args .normal)∧Frame.enter (PP T F') f args .normal=Frame.enter (PP T F) f args .normal:=by
 have e:(PP T F').funcs[f]? =(PP T F).funcs[f]? :=hC.of.same f hS
 refine⟨⟨hS,fun i hi=>?_,fun d hd=>by simp[Frame.enter]at hd,rfl,fun l hl=>by simp[Frame.enter]at hl⟩,by simp only[Frame.enter,e]⟩
 simp only[Frame.enter,List.mem_singleton]at hi
 subst hi
 show QO T _=true
 cases hf:(PP T F).funcs[f]? with
 |none=>rfl
 |some fn=>
  cases hb:fn.body with
  |none=>simp[hb,QO]
  |some b=>simpa[hb]using hC.code f fn b hS hf hb
theorem VT (hC:Cut T F F' S){s:Sem Next}(hs:Tr (PP T F) (PP T F') (LOk T S) X (NOk (LOk T S) X S) s s){fr:Frame}{mid:List Frame}(hf:FOk T S X fr)(hrun:fr.mode=.run)(hm:MOk T S X mid)
 {w w':World}(hE:Em X w w')(hX:XOk X w)(hW:WOk (LOk T S) w')(ht:JD w w' (stepG.apply (PP T F) true fr (mid++cs0) none s w))
 {g1':Goroutine}{w1':World}{es':Array Event}(hl:stepG.apply (PP T F') true fr (mid++ [c0]) none s w'=.go g1' w1' es'):
 JZ T S X cs0 w w' g1' w1' (stepG.apply (PP T F) true fr (mid++cs0) none s w):=by
 obtain⟨ok,bad⟩:=hs w w' hE hX hW (fun k hk=>ht k fun fr1 cs1 w1 es h=>Nat.lt_of_lt_of_le hk (U6 h))
 unfold stepG.apply at hl
 simp only[if_true,Sem.runT_eq]at hl
 cases hr:s.run (PP T F') w' with
 |halt h w2'=>
  obtain⟨hh,hw⟩:=bad h w2' hr
  rw[hr]at hl
  obtain⟨es1,hl,_⟩:=ZU hl
  cases h with
  |panic v=>
   simp only[GStep.go.injEq]at hl
   obtain⟨rfl,rfl,_⟩:=hl
   exact .inr ⟨Ke hf.defers hm _,hw⟩
  |stuck s=>cases hl
  |unsupported u=>
   cases u<;>simp only at hl<;>first|(cases hl;done)|exact hh.elim
  |_=>exact hh.elim
 |ok n w2'=>
  obtain⟨w2,e1,e2,e3,e4,e5,e6,e7⟩:=ok n w2' hr
  rw[hr]at hl
  obtain⟨es1,hl1,hes⟩:=ZU hl
  clear hes hl
  have hl:=hl1
  clear hl1
  have hk:(fr.kind ==CallKind.early)=false:=by rw[hf.kind];rfl
  have hcomp:∀g,(match n with
   | .value v=>g=G (fr.finish v) (mid++cs0)
   | .skip=>g=G (fr.finish undef) (mid++cs0)
   | .enter f args=>g=G (Frame.enter (PP T F) f args .normal) (fr::(mid++cs0))
   | .round l f tmps a b=>g=G (Frame.round l f tmps a b .normal) (fr::(mid++cs0))
   |_=>False)→stepG.apply (PP T F) true fr (mid++cs0) none s w=.go g w2 (seen (PP T F) fr.fn (s.events (PP T F) w #[])++ #[]):=by
   intro g hg
   unfold stepG.apply
   simp only[if_true,Sem.runT_eq,e1,hk,Bool.false_eq_true,if_false]
   cases n<;>simp only at hg<;>first
    |exact hg.elim
    |(subst hg;rfl)
    |(subst hg
      dsimp only
      split
      ·rename_i hx
       have:=hf.todo
       rw[hx]at this
       exact(this _ (Qhp ..)).elim
      ·rfl)
  have hev:∀B,w2.heap.size≤B→∀e∈seen (PP T F) fr.fn (s.events (PP T F) w #[])++ #[],Ev X B e:=by
   intro B hB e he
   rw[Array.append_empty]at he
   exact e7 B hB #[] (fun e he=>by simp at he) e (mem_seen he)
  cases n<;>simp only[NOk]at e6<;>try exact e6.elim
  case value v=>
   simp only[GStep.go.injEq]at hl
   obtain⟨rfl,rfl,_⟩:=hl
   have hfin:=hf.finish v
   exact .inl ⟨_,mid,w2,_,rfl,hcomp _ rfl,hfin.1,.inl (hfin.2.trans hrun),hm,e2,e3,e4,e5,hev⟩
  case skip=>
   simp only[GStep.go.injEq]at hl
   obtain⟨rfl,rfl,_⟩:=hl
   have hfin:=hf.finish undef
   exact .inl ⟨_,mid,w2,_,rfl,hcomp _ rfl,hfin.1,.inl (hfin.2.trans hrun),hm,e2,e3,e4,e5,hev⟩
  case enter f args=>
   dsimp only at hl
   split at hl
   ·rename_i hx
    have:=hf.todo
    rw[hx]at this
    exact(this _ (Qhp ..)).elim
   simp only[GStep.go.injEq]at hl
   obtain⟨rfl,rfl,_⟩:=hl
   obtain⟨h1,h2⟩:=Oe (X:=X) (args:=args) hC e6
   refine .inl ⟨_,fr::mid,w2,_,?_,hcomp _ rfl,h1,.inl rfl,?_,e2,e3,e4,e5,hev⟩
   ·rw[h2];rfl
   ·intro c hc
    rcases List.mem_cons.1 hc with rfl|hc
    ·exact⟨hf,hrun⟩
    ·exact hm c hc
  case round l f tmps a b=>
   simp only[GStep.go.injEq]at hl
   obtain⟨rfl,rfl,_⟩:=hl
   obtain⟨hXl,r,hlo,rfl,rfl,rfl⟩:=e6
   refine .inl ⟨_,fr::mid,w2,_,rfl,hcomp _ rfl,⟨hlo.1,?_,fun d hd=>by simp[Frame.round]at hd,rfl,fun l' hl'=>by simp[Frame.round]at hl';subst hl';exact hXl⟩,.inl rfl,?_,e2,e3,e4,e5,hev⟩
   ·intro i hi
    simp only[Frame.round,List.mem_cons,List.not_mem_nil,or_false]at hi
    rcases hi with rfl|rfl|rfl
    ·exact hlo.2.1
    ·trivial
    ·exact hlo.2.2.1
   ·intro c hc
    rcases List.mem_cons.1 hc with rfl|hc
    ·exact⟨hf,hrun⟩
    ·exact hm c hc
end
section
variable {T:Tables} {F F':Array Func} {S:FuncId→Bool} {X:Nat→Bool} {cs0:List Frame}
theorem K8 {fr:Frame}{mid:List Frame}(hf:FOk T S X fr)(hrun:fr.mode=.run∨fr.mode=.returning)(hm:MOk T S X mid){w w':World}(hE:Em X w w')(hW:WOk (LOk T S) w'):
 JZ T S X cs0 w w' (G fr (mid++ [c0])) w' (.go (G fr (mid++cs0)) w #[]):=
 .inl ⟨fr,mid,w,#[],rfl,rfl,hf,hrun,hm,hE,Qy.refl X w,hW,⟨Nat.le_refl _,Nat.add_comm _ _,rfl,rfl⟩,fun B _ e he=>by simp at he⟩
theorem KX {fr:Frame}{mid:List Frame}(hk:fr.kind=.normal)(hm:MOk T S X mid){w w' w2 w2':World}(hE:Em X w2 w2')(hK:Qy X w w2)(hW:WOk (LOk T S) w2')(hd:Dr w w' w2 w2')
 {v:Value}{es:Array Event}(hev:∀B,w2.heap.size≤B→∀e∈es,Ev X B e){P P':Program}{g1':Goroutine}{w1':World}{es':Array Event}(hl:doReturn P' true fr (mid++ [c0]) none v w2'=.go g1' w1' es'):
 JZ T S X cs0 w w' g1' w1' (GStep.after es (doReturn P true fr (mid++cs0) none v w2)):=by
 cases mid with
 |nil=>
  simp only[List.nil_append,doReturn,hk,GStep.go.injEq]at hl
  obtain⟨rfl,rfl,_⟩:=hl
  exact .inr ⟨.inr (.inr ⟨v,rfl⟩),hW⟩
 |cons c mid=>
  simp only[List.cons_append,doReturn,hk,GStep.go.injEq]at hl
  obtain⟨rfl,rfl,_⟩:=hl
  have hc:=hm c (Qhp ..)
  have hfin:=hc.1.finish v
  refine .inl ⟨c.finish v,mid,w2,es++ #[],rfl,?_,hfin.1,.inl (hfin.2.trans hc.2),fun x hx=>hm x (Qhq _ hx),hE,hK,hW,hd,fun B hB e he=>hev B hB e (by simpa using he)⟩
  simp only[List.cons_append,doReturn,hk,GStep.after]
  rfl
theorem Qae {P:Program}{fr:Frame}{cs:List Frame}{v:Value}{w w1:World}{fr1:Frame}{cs1:List Frame}{es0 es:Array Event}(hk:fr.kind=.normal)(h:GStep.after es0 (doReturn P true fr cs none v w)=.go (G fr1 cs1) w1 es):w1.drawn=w.drawn:=by
 obtain⟨es1,h,_⟩:=ZU h
 unfold doReturn at h
 rw[hk]at h
 cases cs with
 |nil=>
  simp only[Bool.not_true,Bool.false_eq_true,if_false]at h
  split at h
  ·cases h;rfl
  ·cases h
 |cons c cs=>
  simp only[GStep.go.injEq]at h
  exact h.2.1▸rfl
theorem QeD {fr:Frame}{mid:List Frame}(hf:FOk T S X fr)(hm:MOk T S X mid)(l:Nat)(hl0:X l=false)(j:Option Code)(hj:∀c,j=some c→QO T c=true){w w':World}(hE:Em X w w')(hX:XOk X w)(hW:WOk (LOk T S) w')
 {why:String}{comp lone:GStep}
 (hcomp:comp=GStep.after (seen (PP T F) fr.fn ((Instr.endRound l j).events (PP T F) w #[])) (match(Instr.endRound l j).run (PP T F) w with
   | .ok v w=>doReturn (PP T F) true fr (mid++cs0) none v w
   | .halt _ w=>.ended (.stuck why (fr.pos (PP T F))) w))
 (hlone:lone=GStep.after (seen (PP T F') fr.fn ((Instr.endRound l j).events (PP T F') w' #[])) (match(Instr.endRound l j).run (PP T F') w' with
   | .ok v w=>doReturn (PP T F') true fr (mid++ [c0]) none v w
   | .halt _ w=>.ended (.stuck why (fr.pos (PP T F'))) w))
 (ht:JD w w' comp){g1':Goroutine}{w1':World}{es':Array Event}(hl:lone=.go g1' w1' es'):JZ T S X cs0 w w' g1' w1' comp:=by
 obtain⟨ok,_⟩:=(Qcq (F:=F) (F':=F') (S:=S) l hl0 j hj).tr w w' hE hX hW (fun k hk=>ht k fun fr1 cs1 w1 es h=>by
  rw[hcomp]at h
  cases hr:(Instr.endRound l j).run (PP T F) w with
  |halt x y=>
   rw[hr]at h
   obtain⟨_,h,_⟩:=ZU h
   cases h
  |ok v w2=>
   rw[hr]at h hk
   rw[Qae hf.kind h]
   exact hk)
 rw[hlone]at hl
 obtain⟨es1,hl,_⟩:=ZU hl
 cases hr:(Instr.endRound l j).run (PP T F') w' with
 |halt x y=>rw[hr]at hl;cases hl
 |ok v w2'=>
  rw[hr]at hl
  obtain⟨w2,e1,e2,e3,e4,e5,e6,e7⟩:=ok v w2' hr
  rw[hcomp,e1]
  exact KX hf.kind hm e2 e3 e4 e5 (fun B hB e he=>e7 B hB #[] (fun e he=>by simp at he) e (mem_seen he)) hl
end
section
variable {T:Tables} {F F':Array Func} {S:FuncId→Bool} {X:Nat→Bool} {cs0:List Frame}
def ZE (P:Program)(fn:FuncId)(tmps:Array Value)(todo:List Item)(defers:List Deferred)(kind:CallKind)(roundOf:Option Nat)(cs:List Frame)(w:World)(j:Option Code):GStep:=
 match roundOf with
 |none=>if j matches none|some .ret then GStep.go {frame:=⟨fn,tmps,todo,defers,.returning,kind,roundOf⟩,callers:=cs,status:=.running,dying:=none} w else .ended (.stuck "exit, goto: no such block or label" (Frame.pos P ⟨fn,tmps,todo,defers,.run,kind,roundOf⟩)) w
 |some l=>GStep.after (seen P fn ((Instr.endRound l j).events P w #[])) (match(Instr.endRound l j).run P w with
  | .ok v w=>doReturn P true ⟨fn,tmps,todo,defers,.run,kind,roundOf⟩ cs none v w
  | .halt _ w=>.ended (.stuck "range over a function: no such loop" (Frame.pos P ⟨fn,tmps,todo,defers,.run,kind,roundOf⟩)) w)
theorem Vn {fn:FuncId}{tmps:Array Value}{todo:List Item}{defers:List Deferred}{kind:CallKind}{roundOf:Option Nat}{mid:List Frame}(hf:FOk T S X ⟨fn,tmps,todo,defers,.run,kind,roundOf⟩)(hm:MOk T S X mid)(j:Option Code)(hj:∀c,j=some c→QO T c=true)
 {w w':World}(hE:Em X w w')(hX:XOk X w)(hW:WOk (LOk T S) w')(ht:JD w w' (ZE (PP T F) fn tmps todo defers kind roundOf (mid++cs0) w j))
 {g1':Goroutine}{w1':World}{es':Array Event}(hl:ZE (PP T F') fn tmps todo defers kind roundOf (mid++ [c0]) w' j=.go g1' w1' es'):
 JZ T S X cs0 w w' g1' w1' (ZE (PP T F) fn tmps todo defers kind roundOf (mid++cs0) w j):=by
 cases roundOf with
 |some l=>exact QeD hf hm l (hf.round l rfl) j hj hE hX hW rfl rfl ht hl
 |none=>
  unfold ZE at hl⊢
  dsimp only at hl⊢
  have fin:JZ T S X cs0 w w' (G ⟨fn,tmps,todo,defers,.returning,kind,none⟩ (mid++ [c0])) w' (.go (G ⟨fn,tmps,todo,defers,.returning,kind,none⟩ (mid++cs0)) w #[]):=K8 (fr:=⟨fn,tmps,todo,defers,.returning,kind,none⟩) ⟨hf.fn,hf.todo,hf.defers,hf.kind,hf.round⟩ (.inr rfl) hm hE hW
  split at hl
  ·cases hl;simp only[if_true];exact fin
  ·cases hl;simp only[if_true];exact fin
  ·simp only[Bool.false_eq_true,if_false]at hl;cases hl
theorem Qds (hC:Cut T F F' S){fr:Frame}{mid:List Frame}(hf:FOk T S X fr)(hrun:fr.mode=.run)(hm:MOk T S X mid){w w':World}(hE:Em X w w')(hX:XOk X w)(hW:WOk (LOk T S) w')
 (ht:JD w w' (stepG.exec (PP T F) true true fr (mid++cs0) none w)){g1':Goroutine}{w1':World}{es':Array Event}(hl:stepG.exec (PP T F') true true fr (mid++ [c0]) none w'=.go g1' w1' es'):
 JZ T S X cs0 w w' g1' w1' (stepG.exec (PP T F) true true fr (mid++cs0) none w):=by
 obtain⟨fn,tmps,todo,defers,mode,kind,roundOf⟩:=fr
 dsimp only at hrun
 subst hrun
 have htodo:=hf.todo
 dsimp only at htodo
 have go:∀k:List Item,(∀i∈k,ZY T X i)→g1'=G ⟨fn,tmps,k,defers,.run,kind,roundOf⟩ (mid++ [c0])→w1'=w'→JZ T S X cs0 w w' g1' w1' (.go (G ⟨fn,tmps,k,defers,.run,kind,roundOf⟩ (mid++cs0)) w #[]):=by
  intro k hk h1 h2
  subst h1 h2
  exact K8 (hf.to hk) (.inl rfl) hm hE hW
 cases todo with
 |nil=>
  have e:∀P cs w,stepG.exec P true true ⟨fn,tmps,[],defers,.run,kind,roundOf⟩ cs none w=ZE P fn tmps [] defers kind roundOf cs w none:=by
   intro P cs w
   cases roundOf<;>simp[stepG.exec,ZE,Sem.runT_eq]<;>rfl
  rw[e]at hl ht⊢
  exact Vn hf hm none (fun c hc=>by cases hc) hE hX hW ht hl
 |cons i k=>
  have hi:=htodo i (Qhp ..)
  have hk:∀x∈k,ZY T X x:=fun x hx=>htodo x (Qhq _ hx)
  have hk2:∀ {a:Item},ZY T X a→∀x∈a::k,ZY T X x:=fun ha x hx=>(List.mem_cons.1 hx).elim (fun e=>e▸ha) (hk x)
  have hk3:∀ {a b:Item},ZY T X a→ZY T X b→∀x∈a::b::k,ZY T X x:=fun ha hb x hx=>(List.mem_cons.1 hx).elim (fun e=>e▸ha) (hk2 hb x)
  cases i with
  |code c=>
   cases c with
   |skip=>
    simp only[stepG.exec]at hl⊢
    cases hl
    exact go k hk rfl rfl
   |label l=>
    simp only[stepG.exec]at hl⊢
    cases hl
    exact go k hk rfl rfl
   |seq a b=>
    simp only[stepG.exec]at hl⊢
    cases hl
    simp only[ZY,QO,Bool.and_eq_true]at hi
    exact go _ (hk3 hi.1 hi.2) rfl rfl
   |cond c a b=>
    simp only[ZY,QO,Bool.and_eq_true]at hi
    simp only[stepG.exec]at hl⊢
    split at hl
    ·rename_i t _
     cases hl
     refine go _ (hk2 ?_) rfl rfl
     cases t
     ·exact hi.2
     ·exact hi.1
    ·cases hl
   |block id b=>
    simp only[stepG.exec]at hl⊢
    cases hl
    exact go _ (hk3 hi trivial) rfl rfl
   |loop b=>
    simp only[stepG.exec]at hl⊢
    cases hl
    exact go _ (hk3 hi hi) rfl rfl
   |scope b=>
    simp only[stepG.exec]at hl⊢
    cases hl
    exact go _ (hk3 hi hi) rfl rfl
   |ret=>
    have e:∀P cs w,stepG.exec P true true ⟨fn,tmps,.code .ret::k,defers,.run,kind,roundOf⟩ cs none w=ZE P fn tmps (.code .ret::k) defers kind roundOf cs w (some .ret):=by
     intro P cs w
     cases roundOf<;>simp[stepG.exec,ZE,Sem.runT_eq]<;>rfl
    rw[e]at hl ht⊢
    exact Vn hf hm (some .ret) (fun c hc=>by cases hc;rfl) hE hX hW ht hl
   |refuse why=>
    simp only[stepG.exec]at hl
    cases hl
   |exit id=>
    cases hx:exitTo id k with
    |some k2=>
     simp only[stepG.exec,hx,Option.elim]at hl⊢
     cases hl
     exact go k2 (fun x hx2=>hk x (Kk hx x hx2)) rfl rfl
    |none=>
     have e:∀P cs w,stepG.exec P true true ⟨fn,tmps,.code (.exit id)::k,defers,.run,kind,roundOf⟩ cs none w=ZE P fn tmps (.code (.exit id)::k) defers kind roundOf cs w (some (.exit id)):=by
      intro P cs w
      cases roundOf<;>simp[stepG.exec,ZE,Sem.runT_eq,hx]<;>rfl
     rw[e]at hl ht⊢
     exact Vn hf hm (some (.exit id)) (fun c hc=>by cases hc;rfl) hE hX hW ht hl
   |goto l=>
    cases hx:gotoIn l k with
    |some k2=>
     simp only[stepG.exec,hx,Option.elim]at hl⊢
     cases hl
     exact go k2 (Kt hk hx) rfl rfl
    |none=>
     have e:∀P cs w,stepG.exec P true true ⟨fn,tmps,.code (.goto l)::k,defers,.run,kind,roundOf⟩ cs none w=ZE P fn tmps (.code (.goto l)::k) defers kind roundOf cs w (some (.goto l)):=by
      intro P cs w
      cases roundOf<;>simp[stepG.exec,ZE,Sem.runT_eq,hx]<;>rfl
     rw[e]at hl ht⊢
     exact Vn hf hm (some (.goto l)) (fun c hc=>by cases hc;rfl) hE hX hW ht hl
   |region id ops draw=>
    cases draw with
    |false=>
     simp only[stepG.exec,Bool.not_false,if_true]at hl⊢
     cases hl
     exact go _ (hk2 hi) rfl rfl
    |true=>
     have e:∀P cs w,stepG.exec P true true ⟨fn,tmps,.code (.region id ops true)::k,defers,.run,kind,roundOf⟩ cs none w=match(choose (.order fn id)).run P w with
      | .ok t w=>.go {frame:=⟨fn,tmps,.inRegion ops (Region.schedule (P.follows .mixedOrders) ops t)::k,defers,.run,kind,roundOf⟩,callers:=cs,status:=.running,dying:=none} w
      | .halt _ w=>.ended (.stuck "order" (Frame.pos P ⟨fn,tmps,.code (.region id ops true)::k,defers,.run,kind,roundOf⟩)) w:=by
      intro P cs w
      simp only[stepG.exec,Bool.not_true,Bool.false_eq_true,if_false]
      generalize (choose (.order fn id)).run P w=r
      cases r<;>rfl
     rw[e]at hl ht⊢
     obtain⟨ok,_⟩:=(QaS (P:=PP T F) (P':=PP T F') (LO:=LOk T S) (X:=X) (Q:=fun _=>True) (.order fn id) fun _=>trivial) w w' hE hX hW (fun k hk=>ht k fun fr1 cs1 w1 es h=>by
      cases hr:(choose (.order fn id)).run (PP T F) w with
      |halt x y=>rw[hr]at h;cases h
      |ok v w2=>
       rw[hr]at h hk
       simp only[GStep.go.injEq]at h
       exact h.2.1▸hk)
     cases hr:(choose (.order fn id)).run (PP T F') w' with
     |halt x y=>rw[hr]at hl;cases hl
     |ok t w2'=>
      rw[hr]at hl
      obtain⟨w2,e1,e2,e3,e4,e5,_,_⟩:=ok t w2' hr
      rw[e1]
      simp only[GStep.go.injEq]at hl
      obtain⟨rfl,rfl,_⟩:=hl
      exact .inl ⟨⟨fn,tmps,.inRegion ops (Region.schedule (T.follows .mixedOrders) ops t)::k,defers,.run,kind,roundOf⟩,mid,w2,#[],rfl,rfl,hf.to (hk2 hi),.inl rfl,hm,e2,e3,e4,e5,fun B _ e he=>by simp at he⟩
   |rangeFunc f ps a b=>
    simp only[ZY,QO,Bool.and_eq_true]at hi
    have hen:=QaF (F:=F) (F':=F') (S:=S) (X:=X) fn tmps ps a b roundOf hf.fn hi.1 hi.2 hf.round
    have e:∀P cs w,stepG.exec P true true ⟨fn,tmps,.code (.rangeFunc f ps a b)::k,defers,.run,kind,roundOf⟩ cs none w=
     GStep.after (seen P fn ((Instr.enterLoop fn tmps ps a b roundOf).events P w #[])) (match(Instr.enterLoop fn tmps ps a b roundOf).run P w with
     | .ok lm w=>stepG.apply P true ⟨fn,tmps,.inRangeFunc lm.1::k,lm.2++defers,.run,kind,roundOf⟩ cs none (Deferred.ofValue (Frame.eval ⟨fn,tmps,.inRangeFunc lm.1::k,lm.2++defers,.run,kind,roundOf⟩ f) #[.func (.yield lm.1) #[] #[]]>>= fun d=>invoke d.target d.args) w
     | .halt _ w=>.ended (.stuck "range over a function: no such loop" (Frame.pos P ⟨fn,tmps,.code (.rangeFunc f ps a b)::k,defers,.run,kind,roundOf⟩)) w):=by
     intro P cs w
     simp only[stepG.exec,Sem.runT_eq]
     generalize (Instr.enterLoop fn tmps ps a b roundOf).run P w=r
     cases r with
     |ok lm w=>
      obtain⟨l,m⟩:=lm
      simp only[resolve,List.map_toArray,List.map_cons,List.map_nil]
      rfl
     |halt h w=>rfl
    rw[e]at hl ht⊢
    obtain⟨ok,_⟩:=hen w w' hE hX hW (fun k hk=>ht k fun fr1 cs1 w1 es h=>by
     obtain⟨_,h,_⟩:=ZU h
     cases hr:(Instr.enterLoop fn tmps ps a b roundOf).run (PP T F) w with
     |halt x y=>rw[hr]at h;cases h
     |ok lm w2=>
      rw[hr]at h hk
      exact Nat.lt_of_lt_of_le hk (Nat.le_trans (JU _ _ _).1 (U6 h)))
    obtain⟨es1,hl,_⟩:=ZU hl
    cases hr:(Instr.enterLoop fn tmps ps a b roundOf).run (PP T F') w' with
    |halt x y=>rw[hr]at hl;cases hl
    |ok lm w2'=>
     rw[hr]at hl
     obtain⟨w2,e1,e2,e3,e4,e5,e6,e7⟩:=ok lm w2' hr
     have hmono:=(JU (PP T F) (Instr.enterLoop fn tmps ps a b roundOf) w)
     have hmono':=(JU (PP T F') (Instr.enterLoop fn tmps ps a b roundOf) w')
     rw[e1]at hmono
     rw[hr]at hmono'
     simp only[rw]at hmono hmono'
     rw[e1]at ht⊢
     dsimp only at hl ht⊢
     have hf2:FOk T S X ⟨fn,tmps,.inRangeFunc lm.1::k,lm.2++defers,.run,kind,roundOf⟩:=⟨hf.fn,hk2 e6.1,fun d hd=>(List.mem_append.1 hd).elim (e6.2 d) (hf.defers d),hf.kind,hf.round⟩
     have hag:JD w2 w2' (stepG.apply (PP T F) true ⟨fn,tmps,.inRangeFunc lm.1::k,lm.2++defers,.run,kind,roundOf⟩ (mid++cs0) none (Deferred.ofValue (Frame.eval ⟨fn,tmps,.inRangeFunc lm.1::k,lm.2++defers,.run,kind,roundOf⟩ f) #[.func (.yield lm.1) #[] #[]]>>= fun d=>invoke d.target d.args) w2):=by
      intro j hj
      have:=ht (w2.drawn-w.drawn+j) (fun fr1 cs1 w1 es h=>by
       obtain⟨_,h,_⟩:=ZU h
       have:=hj _ _ _ _ h
       omega)
      have e52:=e5.eq
      rw[hmono.2,hmono'.2,show w2'.drawn+j=w'.drawn+(w2.drawn-w.drawn+j)by omega,this]
      congr 1
      omega
     have hsim:=VT (cs0:=cs0) hC (Kc hC.of _ _).tr hf2 rfl hm e2 (hX.kept e3) e4 hag hl
     rcases hsim with⟨fr1,mid1,w1,es,g1,g2,g3,g4,g5,g6,g7,g8,g9,g10⟩|hd
     ·refine .inl ⟨fr1,mid1,w1,_,g1,by rw[g2];rfl,g3,g4,g5,g6,e3.trans g7,g8,Dr.trans e5 g9,fun B hB e he=>?_⟩
      rcases Array.mem_append.1 he with he|he
      ·exact e7 B (Nat.le_trans g7.size hB) #[] (fun e he=>by simp at he) e (mem_seen he)
      ·exact g10 B hB e he
     ·exact .inr hd
  |inBlock id=>
   simp only[stepG.exec]at hl⊢
   cases hl
   exact go k hk rfl rfl
  |inScope b=>
   simp only[stepG.exec]at hl⊢
   cases hl
   exact go k hk rfl rfl
  |inLoop b=>
   simp only[stepG.exec]at hl⊢
   cases hl
   exact go _ (hk3 hi hi) rfl rfl
  |inRegion ops todo=>
   cases todo with
   |nil=>
    simp only[stepG.exec]at hl⊢
    cases hl
    exact go k hk rfl rfl
   |cons i rest=>
    have e:∀P cs w,stepG.exec P true true ⟨fn,tmps,.inRegion ops (i::rest)::k,defers,.run,kind,roundOf⟩ cs none w=
     if((ops[i]?).map (Region.wanted · (yielded ops tmps))).getD false then stepG.oper P true ⟨fn,tmps,.inRegion ops (i::rest)::k,defers,.run,kind,roundOf⟩ cs none w
     else .go {frame:=Frame.finish ⟨fn,tmps,.inRegion ops (i::rest)::k,defers,.run,kind,roundOf⟩ undef,callers:=cs,status:=.running,dying:=none} w:=by
     intro P cs w
     simp[stepG.exec]
    rw[e]at hl ht⊢
    cases hw:((ops[i]?).map (Region.wanted · (yielded ops tmps))).getD false with
    |false=>
     simp only[hw,Bool.false_eq_true,if_false]at hl⊢
     cases hl
     have hfin:=hf.finish undef
     exact K8 hfin.1 (.inl hfin.2) hm hE hW
    |true=>
     simp only[hw,if_true]at hl ht⊢
     cases ho:ops[i]? with
     |none=>rw[ho]at hw;cases hw
     |some o=>
      have hok:Uj T o.op=true:=by
       have:=Array.all_eq_true'.1 hi o (Array.mem_of_getElem? ho)
       exact this
      have e2:∀P cs w,stepG.oper P true ⟨fn,tmps,.inRegion ops (i::rest)::k,defers,.run,kind,roundOf⟩ cs none w=stepG.apply P true ⟨fn,tmps,.inRegion ops (i::rest)::k,defers,.run,kind,roundOf⟩ cs none (execOp (Frame.eval ⟨fn,tmps,.inRegion ops (i::rest)::k,defers,.run,kind,roundOf⟩) o) w:=by
       intro P cs w
       unfold stepG.oper
       simp only[Frame.oper?,ho]
       split
       ·rename_i h;rw[h]at hok;cases hok
       ·rfl
      rw[e2]at hl ht⊢
      exact VT hC (PY hC.of _ o hok).tr hf rfl hm hE hX hW ht hl
  |inRangeFunc l=>
   simp only[stepG.exec]at hl
   cases hl
  |endRangeFunc l=>
   have e:∀P cs w,stepG.exec P true true ⟨fn,tmps,.endRangeFunc l::k,defers,.run,kind,roundOf⟩ cs none w=GStep.after (seen P fn ((Instr.endLoop l).events P w #[])) (match(Instr.endLoop l).run P w with
    | .ok jump w=>.go {frame:=⟨fn,tmps,(jump.map Item.code).toList++k,defers,.run,kind,roundOf⟩,callers:=cs,status:=.running,dying:=none} w
    | .halt (.panic v) w=>.go {frame:=Frame.raise ⟨fn,tmps,.endRangeFunc l::k,defers,.run,kind,roundOf⟩ [{v,recovered:=false}],callers:=cs,status:=.running,dying:=none} w
    | .halt _ w=>.ended (.stuck "range over a function: no such loop" (Frame.pos P ⟨fn,tmps,.endRangeFunc l::k,defers,.run,kind,roundOf⟩)) w):=by
    intro P cs w
    simp only[stepG.exec,Sem.runT_eq]
    generalize (Instr.endLoop l).run P w=r
    cases r with
    |ok j w=>rfl
    |halt h w=>cases h<;>rfl
   rw[e]at hl ht⊢
   obtain⟨ok,bad⟩:=(Qgo (F:=F) (F':=F') (S:=S) l hi) w w' hE hX hW (fun k hk=>ht k fun fr1 cs1 w1 es h=>by
    obtain⟨_,h,_⟩:=ZU h
    cases hr:(Instr.endLoop l).run (PP T F) w with
    |halt x y=>
     rw[hr]at h hk
     cases x<;>simp only[GStep.go.injEq]at h<;>first|(cases h;done)|exact h.2.1▸hk
    |ok v w2=>
     rw[hr]at h hk
     simp only[GStep.go.injEq]at h
     exact h.2.1▸hk)
   obtain⟨es1,hl,_⟩:=ZU hl
   cases hr:(Instr.endLoop l).run (PP T F') w' with
   |halt x y=>
    rw[hr]at hl
    obtain⟨_,hw⟩:=bad x y hr
    cases x<;>simp only[GStep.go.injEq]at hl<;>try(cases hl;done)
    obtain⟨rfl,rfl,_⟩:=hl
    exact .inr ⟨Ke hf.defers hm _,hw⟩
   |ok j w2'=>
    rw[hr]at hl
    obtain⟨w2,e1,e2,e3,e4,e5,e6,e7⟩:=ok j w2' hr
    rw[e1]
    simp only[GStep.go.injEq]at hl
    obtain⟨rfl,rfl,_⟩:=hl
    refine .inl ⟨_,mid,w2,_,rfl,rfl,hf.to (fun x hx=>?_),.inl rfl,hm,e2,e3,e4,e5,fun B hB e he=>e7 B hB #[] (fun e he=>by simp at he) e (mem_seen (by simpa using he))⟩
    rcases List.mem_append.1 hx with hx|hx
    ·cases j with
     |none=>cases hx
     |some c=>
      simp only[Option.map_some,Option.toList,List.mem_singleton]at hx
      subst hx
      exact e6 c rfl
    ·exact hk x hx
  |beginRound=>
   simp only[stepG.exec]at hl ht⊢
   refine VT hC ?_ hf rfl hm hE hX hW ht hl
   refine(Kd ?_).tr
   cases roundOf with
   |none=>exact Qf _
   |some l=>exact PM l (hf.round l rfl)
  |call _ _ _ _=>exact hi.elim
  |extern _ _=>exact hi.elim
theorem QgZ (hC:Cut T F F' S){fr:Frame}{mid:List Frame}(hf:FOk T S X fr)(hret:fr.mode=.returning)(hm:MOk T S X mid){w w':World}(hE:Em X w w')(hX:XOk X w)(hW:WOk (LOk T S) w')
 (ht:JD w w' (unwind (PP T F) true fr (mid++cs0) none w)){g1':Goroutine}{w1':World}{es':Array Event}(hl:unwind (PP T F') true fr (mid++ [c0]) none w'=.go g1' w1' es'):
 JZ T S X cs0 w w' g1' w1' (unwind (PP T F) true fr (mid++cs0) none w):=by
 obtain⟨fn,tmps,todo,defers,mode,kind,roundOf⟩:=fr
 dsimp only at hret
 subst hret
 cases defers with
 |cons d ds=>
  obtain⟨r,hr,hXr⟩:=hf.defers d (Qhp ..)
  obtain⟨tg,args⟩:=d
  dsimp only at hr
  subst hr
  have e:∀P cs w,unwind P true ⟨fn,tmps,todo,⟨.collected r,args⟩::ds,.returning,kind,roundOf⟩ cs none w=GStep.after (seen P fn ((Instr.takeDeferred r).events P w #[])) (match(Instr.takeDeferred r).run P w with
   | .ok calls w=>.go {frame:=⟨fn,tmps,todo,calls++ds,.returning,kind,roundOf⟩,callers:=cs,status:=.running,dying:=none} w
   | .halt _ w=>.ended (.stuck "the deferred calls of a range-over-func loop have been taken" (Frame.pos P ⟨fn,tmps,todo,⟨.collected r,args⟩::ds,.returning,kind,roundOf⟩)) w):=by
   intro P cs w
   simp only[unwind,Sem.runT_eq]
   generalize (Instr.takeDeferred r).run P w=x
   cases x<;>rfl
  rw[e]at hl ht⊢
  obtain⟨ok,_⟩:=(Qgp (F:=F) (F':=F') (S:=S) r hXr) w w' hE hX hW (fun k hk=>ht k fun fr1 cs1 w1 es h=>by
   obtain⟨_,h,_⟩:=ZU h
   cases hr:(Instr.takeDeferred r).run (PP T F) w with
   |halt x y=>rw[hr]at h;cases h
   |ok v w2=>
    rw[hr]at h hk
    simp only[GStep.go.injEq]at h
    exact h.2.1▸hk)
  obtain⟨es1,hl,_⟩:=ZU hl
  cases hr:(Instr.takeDeferred r).run (PP T F') w' with
  |halt x y=>rw[hr]at hl;cases hl
  |ok calls w2'=>
   rw[hr]at hl
   obtain⟨w2,e1,e2,e3,e4,e5,rfl,e7⟩:=ok calls w2' hr
   rw[e1]
   simp only[GStep.go.injEq]at hl
   obtain⟨rfl,rfl,_⟩:=hl
   exact .inl ⟨⟨fn,tmps,todo,ds,.returning,kind,roundOf⟩,mid,w2,_,rfl,rfl,⟨hf.fn,hf.todo,fun d hd=>hf.defers d (Qhq _ hd),hf.kind,hf.round⟩,.inr rfl,hm,e2,e3,e4,e5,
    fun B hB e he=>e7 B hB #[] (fun e he=>by simp at he) e (mem_seen (by simpa using he))⟩
 |nil=>
  have efn:(PP T F').funcs[fn]? =(PP T F).funcs[fn]? :=hC.of.same fn hf.fn
  cases hfn:(PP T F).funcs[fn]? with
  |none=>
   have e:∀cs w,unwind (PP T F) true ⟨fn,tmps,todo,[],.returning,kind,roundOf⟩ cs none w=doReturn (PP T F) true ⟨fn,tmps,todo,[],.returning,kind,roundOf⟩ cs none (tmps.getD 0 undef) w:=by
    intro cs w;simp only[unwind,hfn]
   have e':∀cs w,unwind (PP T F') true ⟨fn,tmps,todo,[],.returning,kind,roundOf⟩ cs none w=doReturn (PP T F') true ⟨fn,tmps,todo,[],.returning,kind,roundOf⟩ cs none (tmps.getD 0 undef) w:=by
    intro cs w;simp only[unwind,efn,hfn]
   rw[e']at hl
   rw[e]
   have:=KX (T:=T) (S:=S) (X:=X) (cs0:=cs0) (P:=PP T F) (w:=w) (w':=w') (es:=#[]) hf.kind hm hE (Qy.refl X w) hW ⟨Nat.le_refl _,Nat.add_comm _ _,rfl,rfl⟩ (fun B _ e he=>by simp at he) hl
   have e0:∀s:GStep,GStep.after #[] s=s:=by intro s;cases s<;>simp[GStep.after]
   rw[e0]at this
   exact this
  |some f=>
   have e:∀P cs w,P.funcs[fn]? =some f→unwind P true ⟨fn,tmps,todo,[],.returning,kind,roundOf⟩ cs none w=GStep.after (seen P fn ((results f tmps).events P w #[])) (match(results f tmps).run P w with
    | .ok v w=>doReturn P true ⟨fn,tmps,todo,[],.returning,kind,roundOf⟩ cs none v w
    | .halt (.stuck s) w=>.ended (.stuck s (Frame.pos P ⟨fn,tmps,todo,[],.returning,kind,roundOf⟩)) w
    | .halt _ w=>.ended (.stuck "return: the result variables cannot be read" (Frame.pos P ⟨fn,tmps,todo,[],.returning,kind,roundOf⟩)) w):=by
    intro P cs w hP
    simp only[unwind,hP,Sem.runT_eq]
    generalize (results f tmps).run P w=x
    cases x with
    |ok v w=>rfl
    |halt h w=>cases h<;>rfl
   rw[e _ _ _ (efn.trans hfn)]at hl
   rw[e _ _ _ hfn]at ht⊢
   obtain⟨ok,_⟩:=(V9 (F:=F) (F':=F') (S:=S) f tmps).tr w w' hE hX hW (fun k hk=>ht k fun fr1 cs1 w1 es h=>by
    cases hr:(results f tmps).run (PP T F) w with
    |halt x y=>
     rw[hr]at h
     obtain⟨_,h,_⟩:=ZU h
     cases x<;>cases h
    |ok v w2=>
     rw[hr]at h hk
     rw[Qae hf.kind h]
     exact hk)
   obtain⟨es1,hl,_⟩:=ZU hl
   cases hr:(results f tmps).run (PP T F') w' with
   |halt x y=>rw[hr]at hl;cases x<;>cases hl
   |ok v w2'=>
    rw[hr]at hl
    obtain⟨w2,e1,e2,e3,e4,e5,e6,e7⟩:=ok v w2' hr
    rw[e1]
    exact KX hf.kind hm e2 e3 e4 e5 (fun B hB e he=>e7 B hB #[] (fun e he=>by simp at he) e (mem_seen he)) hl
theorem Qgk (hC:Cut T F F' S){fr:Frame}{mid:List Frame}(hf:FOk T S X fr)(hmode:fr.mode=.run∨fr.mode=.returning)(hm:MOk T S X mid){w w':World}(hE:Em X w w')(hX:XOk X w)(hW:WOk (LOk T S) w')
 (ht:JD w w' (stepG (PP T F) true (G fr (mid++cs0)) w)){g1':Goroutine}{w1':World}{es':Array Event}(hl:stepG (PP T F') true (G fr (mid++ [c0])) w'=.go g1' w1' es'):
 JZ T S X cs0 w w' g1' w1' (stepG (PP T F) true (G fr (mid++cs0)) w):=by
 rcases hmode with hmode|hmode
 ·have e:∀P cs w,stepG P true (G fr cs) w=stepG.exec P true true fr cs none w:=by intro P cs w;simp[stepG,G,hmode]
  rw[e]at hl ht⊢
  exact Qds hC hf hmode hm hE hX hW ht hl
 ·have e:∀P cs w,stepG P true (G fr cs) w=unwind P true fr cs none w:=by intro P cs w;simp[stepG,G,hmode]
  rw[e]at hl ht⊢
  exact QgZ hC hf hmode hm hE hX hW ht hl
end
end Co
end Go.Proofs.YtcpnkpogebjieaaGreat
