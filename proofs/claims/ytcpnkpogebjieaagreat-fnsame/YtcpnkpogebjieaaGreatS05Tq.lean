/- One step of goroutine 0, in two worlds at once. -/
import Derived.Test.YtcpnkpogebjieaaGreatS04Tm
open List renaming mem_cons_self→QhR,mem_cons_of_mem→QhS
namespace Go.Proofs.YtcpnkpogebjieaaGreat
namespace Co
open Go.Conc
section
variable {T:Tables} {F F':Array Func} {S:FuncId→Bool} {X:Nat→Bool} {cs0:List Frame}
theorem PF {fr:Frame}{mid:List Frame}(hf:FOk T S X fr)(hrun:fr.mode=.run∨fr.mode=.returning)(hm:MOk T S X mid){w w':World}(hE:Em X w w')(hW:WOk (LOk T S) w'):
 J7 T S X cs0 w w' (G fr (mid++ [c0])) w' (.go (G fr (mid++cs0)) w #[]):=
 .inl ⟨fr,mid,w,#[],rfl,rfl,hf,hrun,hm,hE,QB.refl X w,hW,⟨Nat.le_refl _,Nat.add_comm _ _,rfl,rfl⟩,fun B _ e he=>by simp at he⟩
theorem Pz {fr:Frame}{mid:List Frame}(hk:fr.kind=.normal)(hm:MOk T S X mid){w w' w2 w2':World}(hE:Em X w2 w2')(hK:QB X w w2)(hW:WOk (LOk T S) w2')(hd:Dr w w' w2 w2')
 {v:Value}{es:Array Event}(hev:∀B,w2.heap.size≤B→∀e∈es,Ev X B e){P P':Program}{g1':Goroutine}{w1':World}{es':Array Event}(hl:doReturn P' true fr (mid++ [c0]) none v w2'=.go g1' w1' es'):
 J7 T S X cs0 w w' g1' w1' (GStep.after es (doReturn P true fr (mid++cs0) none v w2)):=by
 cases mid with
 |nil=>
  simp only[List.nil_append,doReturn,hk,GStep.go.injEq]at hl;obtain⟨rfl,rfl,_⟩:=hl;exact .inr ⟨.inr (.inr ⟨v,rfl⟩),hW⟩
 |cons c mid=>
  simp only[List.cons_append,doReturn,hk,GStep.go.injEq]at hl;obtain⟨rfl,rfl,_⟩:=hl;have hc:=hm c (QhR ..);have hfin:=hc.1.finish v;refine .inl ⟨c.finish v,mid,w2,es++ #[],rfl,?_,hfin.1,.inl (hfin.2.trans hc.2),fun x hx=>hm x (QhS _ hx),hE,hK,hW,hd,fun B hB e he=>hev B hB e (by simpa using he)⟩;simp only[List.cons_append,doReturn,hk,GStep.after];rfl
theorem QaP {P:Program}{fr:Frame}{cs:List Frame}{v:Value}{w w1:World}{fr1:Frame}{cs1:List Frame}{es0 es:Array Event}(hk:fr.kind=.normal)(h:GStep.after es0 (doReturn P true fr cs none v w)=.go (G fr1 cs1) w1 es):w1.drawn=w.drawn:=by
 obtain⟨es1,h,_⟩:=Z1 h;unfold doReturn at h;rw[hk]at h
 cases cs with
 |nil=>
  simp only[Bool.not_true,Bool.false_eq_true,if_false]at h;split at h
  ·cases h;rfl
  ·cases h
 |cons c cs=>
  simp only[GStep.go.injEq]at h;exact h.2.1▸rfl
theorem Qe9 {fr:Frame}{mid:List Frame}(hf:FOk T S X fr)(hm:MOk T S X mid)(l:Nat)(hl0:X l=false)(j:Option Code)(hj:∀c,j=some c→QQ T c=true){w w':World}(hE:Em X w w')(hX:XOk X w)(hW:WOk (LOk T S) w')
 {why:String}{comp lone:GStep}
 (hcomp:comp=GStep.after (seen (PP T F) fr.fn ((Instr.endRound l j).events (PP T F) w #[])) (match(Instr.endRound l j).run (PP T F) w with
   | .ok v w=>doReturn (PP T F) true fr (mid++cs0) none v w
   | .halt _ w=>.ended (.stuck why (fr.pos (PP T F))) w))
 (hlone:lone=GStep.after (seen (PP T F') fr.fn ((Instr.endRound l j).events (PP T F') w' #[])) (match(Instr.endRound l j).run (PP T F') w' with
   | .ok v w=>doReturn (PP T F') true fr (mid++ [c0]) none v w
   | .halt _ w=>.ended (.stuck why (fr.pos (PP T F'))) w))
 (ht:JM w w' comp){g1':Goroutine}{w1':World}{es':Array Event}(hl:lone=.go g1' w1' es'):J7 T S X cs0 w w' g1' w1' comp:=by
 obtain⟨ok,_⟩:=(Qc3 (F:=F) (F':=F') (S:=S) l hl0 j hj).tr w w' hE hX hW (fun k hk=>ht k fun fr1 cs1 w1 es h=>by
  rw[hcomp]at h
  cases hr:(Instr.endRound l j).run (PP T F) w with
  |halt x y=>
   rw[hr]at h;obtain⟨_,h,_⟩:=Z1 h
   cases h
  |ok v w2=>
   rw[hr]at h hk;rw[QaP hf.kind h]
   exact hk)
 rw[hlone]at hl;obtain⟨es1,hl,_⟩:=Z1 hl
 cases hr:(Instr.endRound l j).run (PP T F') w' with
 |halt x y=>rw[hr]at hl;cases hl
 |ok v w2'=>
  rw[hr]at hl;obtain⟨w2,e1,e2,e3,e4,e5,e6,e7⟩:=ok v w2' hr;rw[hcomp,e1];exact Pz hf.kind hm e2 e3 e4 e5 (fun B hB e he=>e7 B hB #[] (fun e he=>by simp at he) e (mem_seen he)) hl
end
section
variable {T:Tables} {F F':Array Func} {S:FuncId→Bool} {X:Nat→Bool} {cs0:List Frame}
def ZI (P:Program)(fn:FuncId)(tmps:Array Value)(todo:List Item)(defers:List Deferred)(kind:CallKind)(roundOf:Option Nat)(cs:List Frame)(w:World)(j:Option Code):GStep:=
 match roundOf with
 |none=>if j matches none|some .ret then GStep.go {frame:=⟨fn,tmps,todo,defers,.returning,kind,roundOf⟩,callers:=cs,status:=.running,dying:=none} w else .ended (.stuck "exit, goto: no such block or label" (Frame.pos P ⟨fn,tmps,todo,defers,.run,kind,roundOf⟩)) w
 |some l=>GStep.after (seen P fn ((Instr.endRound l j).events P w #[])) (match(Instr.endRound l j).run P w with
  | .ok v w=>doReturn P true ⟨fn,tmps,todo,defers,.run,kind,roundOf⟩ cs none v w
  | .halt _ w=>.ended (.stuck "range over a function: no such loop" (Frame.pos P ⟨fn,tmps,todo,defers,.run,kind,roundOf⟩)) w)
theorem VF {fn:FuncId}{tmps:Array Value}{todo:List Item}{defers:List Deferred}{kind:CallKind}{roundOf:Option Nat}{mid:List Frame}(hf:FOk T S X ⟨fn,tmps,todo,defers,.run,kind,roundOf⟩)(hm:MOk T S X mid)(j:Option Code)(hj:∀c,j=some c→QQ T c=true)
 {w w':World}(hE:Em X w w')(hX:XOk X w)(hW:WOk (LOk T S) w')(ht:JM w w' (ZI (PP T F) fn tmps todo defers kind roundOf (mid++cs0) w j))
 {g1':Goroutine}{w1':World}{es':Array Event}(hl:ZI (PP T F') fn tmps todo defers kind roundOf (mid++ [c0]) w' j=.go g1' w1' es'):
 J7 T S X cs0 w w' g1' w1' (ZI (PP T F) fn tmps todo defers kind roundOf (mid++cs0) w j):=by
 cases roundOf with
 |some l=>exact Qe9 hf hm l (hf.round l rfl) j hj hE hX hW rfl rfl ht hl
 |none=>
  unfold ZI at hl⊢;dsimp only at hl⊢;have fin:J7 T S X cs0 w w' (G ⟨fn,tmps,todo,defers,.returning,kind,none⟩ (mid++ [c0])) w' (.go (G ⟨fn,tmps,todo,defers,.returning,kind,none⟩ (mid++cs0)) w #[]):=PF (fr:=⟨fn,tmps,todo,defers,.returning,kind,none⟩) ⟨hf.fn,hf.todo,hf.defers,hf.kind,hf.round⟩ (.inr rfl) hm hE hW;split at hl
  ·cases hl;simp only[if_true];exact fin
  ·cases hl;simp only[if_true];exact fin
  ·simp only[Bool.false_eq_true,if_false]at hl;cases hl
theorem Qd6 (hC:Cut T F F' S){fr:Frame}{mid:List Frame}(hf:FOk T S X fr)(hrun:fr.mode=.run)(hm:MOk T S X mid){w w':World}(hE:Em X w w')(hX:XOk X w)(hW:WOk (LOk T S) w')
 (ht:JM w w' (stepG.exec (PP T F) true true fr (mid++cs0) none w)){g1':Goroutine}{w1':World}{es':Array Event}(hl:stepG.exec (PP T F') true true fr (mid++ [c0]) none w'=.go g1' w1' es'):
 J7 T S X cs0 w w' g1' w1' (stepG.exec (PP T F) true true fr (mid++cs0) none w):=by
 obtain⟨fn,tmps,todo,defers,mode,kind,roundOf⟩:=fr;dsimp only at hrun;subst hrun;have htodo:=hf.todo;dsimp only at htodo
 have go:∀k:List Item,(∀i∈k,Z5 T X i)→g1'=G ⟨fn,tmps,k,defers,.run,kind,roundOf⟩ (mid++ [c0])→w1'=w'→J7 T S X cs0 w w' g1' w1' (.go (G ⟨fn,tmps,k,defers,.run,kind,roundOf⟩ (mid++cs0)) w #[]):=by
  intro k hk h1 h2;subst h1 h2;exact PF (hf.to hk) (.inl rfl) hm hE hW
 cases todo with
 |nil=>
  have e:∀P cs w,stepG.exec P true true ⟨fn,tmps,[],defers,.run,kind,roundOf⟩ cs none w=ZI P fn tmps [] defers kind roundOf cs w none:=by
   intro P cs w
   cases roundOf<;>simp[stepG.exec,ZI,Sem.runT_eq]<;>rfl
  rw[e]at hl ht⊢;exact VF hf hm none (fun c hc=>by cases hc) hE hX hW ht hl
 |cons i k=>
  have hi:=htodo i (QhR ..);have hk:∀x∈k,Z5 T X x:=fun x hx=>htodo x (QhS _ hx);have hk2:∀ {a:Item},Z5 T X a→∀x∈a::k,Z5 T X x:=fun ha x hx=>(List.mem_cons.1 hx).elim (fun e=>e▸ha) (hk x);have hk3:∀ {a b:Item},Z5 T X a→Z5 T X b→∀x∈a::b::k,Z5 T X x:=fun ha hb x hx=>(List.mem_cons.1 hx).elim (fun e=>e▸ha) (hk2 hb x)
  cases i with
  |code c=>
   cases c with
   |skip=>
    simp only[stepG.exec]at hl⊢
    cases hl
    exact go k hk rfl rfl
   |label l=>
    simp only[stepG.exec]at hl⊢
    cases hl
    exact go k hk rfl rfl
   |seq a b=>
    simp only[stepG.exec]at hl⊢
    cases hl
    simp only[Z5,QQ,Bool.and_eq_true]at hi;exact go _ (hk3 hi.1 hi.2) rfl rfl
   |cond c a b=>
    simp only[Z5,QQ,Bool.and_eq_true]at hi;simp only[stepG.exec]at hl⊢;split at hl
    ·rename_i t _
     cases hl
     refine go _ (hk2 ?_) rfl rfl
     cases t
     ·exact hi.2
     ·exact hi.1
    ·cases hl
   |block id b=>
    simp only[stepG.exec]at hl⊢
    cases hl
    exact go _ (hk3 hi trivial) rfl rfl
   |loop b=>
    simp only[stepG.exec]at hl⊢
    cases hl
    exact go _ (hk3 hi hi) rfl rfl
   |scope b=>
    simp only[stepG.exec]at hl⊢
    cases hl
    exact go _ (hk3 hi hi) rfl rfl
   |ret=>
    have e:∀P cs w,stepG.exec P true true ⟨fn,tmps,.code .ret::k,defers,.run,kind,roundOf⟩ cs none w=ZI P fn tmps (.code .ret::k) defers kind roundOf cs w (some .ret):=by
     intro P cs w
     cases roundOf<;>simp[stepG.exec,ZI,Sem.runT_eq]<;>rfl
    rw[e]at hl ht⊢;exact VF hf hm (some .ret) (fun c hc=>by cases hc;rfl) hE hX hW ht hl
   |refuse why=>
    simp only[stepG.exec]at hl
    cases hl
   |exit id=>
    cases hx:exitTo id k with
    |some k2=>
     simp only[stepG.exec,hx,Option.elim]at hl⊢
     cases hl
     exact go k2 (fun x hx2=>hk x (KT hx x hx2)) rfl rfl
    |none=>
     have e:∀P cs w,stepG.exec P true true ⟨fn,tmps,.code (.exit id)::k,defers,.run,kind,roundOf⟩ cs none w=ZI P fn tmps (.code (.exit id)::k) defers kind roundOf cs w (some (.exit id)):=by
      intro P cs w
      cases roundOf<;>simp[stepG.exec,ZI,Sem.runT_eq,hx]<;>rfl
     rw[e]at hl ht⊢;exact VF hf hm (some (.exit id)) (fun c hc=>by cases hc;rfl) hE hX hW ht hl
   |goto l=>
    cases hx:gotoIn l k with
    |some k2=>
     simp only[stepG.exec,hx,Option.elim]at hl⊢
     cases hl
     exact go k2 (KZ hk hx) rfl rfl
    |none=>
     have e:∀P cs w,stepG.exec P true true ⟨fn,tmps,.code (.goto l)::k,defers,.run,kind,roundOf⟩ cs none w=ZI P fn tmps (.code (.goto l)::k) defers kind roundOf cs w (some (.goto l)):=by
      intro P cs w
      cases roundOf<;>simp[stepG.exec,ZI,Sem.runT_eq,hx]<;>rfl
     rw[e]at hl ht⊢;exact VF hf hm (some (.goto l)) (fun c hc=>by cases hc;rfl) hE hX hW ht hl
   |region id ops draw=>
    cases draw with
    |false=>
     simp only[stepG.exec,Bool.not_false,if_true]at hl⊢
     cases hl
     exact go _ (hk2 hi) rfl rfl
    |true=>
     have e:∀P cs w,stepG.exec P true true ⟨fn,tmps,.code (.region id ops true)::k,defers,.run,kind,roundOf⟩ cs none w=match(choose (.order fn id)).run P w with
      | .ok t w=>.go {frame:=⟨fn,tmps,.inRegion ops (Region.schedule (P.follows .mixedOrders) ops t)::k,defers,.run,kind,roundOf⟩,callers:=cs,status:=.running,dying:=none} w
      | .halt _ w=>.ended (.stuck "order" (Frame.pos P ⟨fn,tmps,.code (.region id ops true)::k,defers,.run,kind,roundOf⟩)) w:=by
      intro P cs w;simp only[stepG.exec,Bool.not_true,Bool.false_eq_true,if_false];generalize (choose (.order fn id)).run P w=r
      cases r<;>rfl
     rw[e]at hl ht⊢
     obtain⟨ok,_⟩:=(Qbs (P:=PP T F) (P':=PP T F') (LO:=LOk T S) (X:=X) (Q:=fun _=>True) (.order fn id) fun _=>trivial) w w' hE hX hW (fun k hk=>ht k fun fr1 cs1 w1 es h=>by
      cases hr:(choose (.order fn id)).run (PP T F) w with
      |halt x y=>rw[hr]at h;cases h
      |ok v w2=>
       rw[hr]at h hk;simp only[GStep.go.injEq]at h
       exact h.2.1▸hk)
     cases hr:(choose (.order fn id)).run (PP T F') w' with
     |halt x y=>rw[hr]at hl;cases hl
     |ok t w2'=>
      rw[hr]at hl;obtain⟨w2,e1,e2,e3,e4,e5,_,_⟩:=ok t w2' hr;rw[e1];simp only[GStep.go.injEq]at hl;obtain⟨rfl,rfl,_⟩:=hl;exact .inl ⟨⟨fn,tmps,.inRegion ops (Region.schedule (T.follows .mixedOrders) ops t)::k,defers,.run,kind,roundOf⟩,mid,w2,#[],rfl,rfl,hf.to (hk2 hi),.inl rfl,hm,e2,e3,e4,e5,fun B _ e he=>by simp at he⟩
   |rangeFunc f ps a b=>
    simp only[Z5,QQ,Bool.and_eq_true]at hi;have hen:=Qbf (F:=F) (F':=F') (S:=S) (X:=X) fn tmps ps a b roundOf hf.fn hi.1 hi.2 hf.round
    have e:∀P cs w,stepG.exec P true true ⟨fn,tmps,.code (.rangeFunc f ps a b)::k,defers,.run,kind,roundOf⟩ cs none w=
     GStep.after (seen P fn ((Instr.enterLoop fn tmps ps a b roundOf).events P w #[])) (match(Instr.enterLoop fn tmps ps a b roundOf).run P w with
     | .ok lm w=>stepG.apply P true ⟨fn,tmps,.inRangeFunc lm.1::k,lm.2++defers,.run,kind,roundOf⟩ cs none (Deferred.ofValue (Frame.eval ⟨fn,tmps,.inRangeFunc lm.1::k,lm.2++defers,.run,kind,roundOf⟩ f) #[.func (.yield lm.1) #[] #[]]>>= fun d=>invoke d.target d.args) w
     | .halt _ w=>.ended (.stuck "range over a function: no such loop" (Frame.pos P ⟨fn,tmps,.code (.rangeFunc f ps a b)::k,defers,.run,kind,roundOf⟩)) w):=by
     intro P cs w;simp only[stepG.exec,Sem.runT_eq];generalize (Instr.enterLoop fn tmps ps a b roundOf).run P w=r
     cases r with
     |ok lm w=>
      obtain⟨l,m⟩:=lm;simp only[resolve,List.map_toArray,List.map_cons,List.map_nil];rfl
     |halt h w=>rfl
    rw[e]at hl ht⊢
    obtain⟨ok,_⟩:=hen w w' hE hX hW (fun k hk=>ht k fun fr1 cs1 w1 es h=>by
     obtain⟨_,h,_⟩:=Z1 h
     cases hr:(Instr.enterLoop fn tmps ps a b roundOf).run (PP T F) w with
     |halt x y=>rw[hr]at h;cases h
     |ok lm w2=>
      rw[hr]at h hk
      exact Nat.lt_of_lt_of_le hk (Nat.le_trans (J2 _ _ _).1 (Vj h)))
    obtain⟨es1,hl,_⟩:=Z1 hl
    cases hr:(Instr.enterLoop fn tmps ps a b roundOf).run (PP T F') w' with
    |halt x y=>rw[hr]at hl;cases hl
    |ok lm w2'=>
     rw[hr]at hl;obtain⟨w2,e1,e2,e3,e4,e5,e6,e7⟩:=ok lm w2' hr;have hmono:=(J2 (PP T F) (Instr.enterLoop fn tmps ps a b roundOf) w);have hmono':=(J2 (PP T F') (Instr.enterLoop fn tmps ps a b roundOf) w');rw[e1]at hmono;rw[hr]at hmono';simp only[rw]at hmono hmono';rw[e1]at ht⊢;dsimp only at hl ht⊢;have hf2:FOk T S X ⟨fn,tmps,.inRangeFunc lm.1::k,lm.2++defers,.run,kind,roundOf⟩:=⟨hf.fn,hk2 e6.1,fun d hd=>(List.mem_append.1 hd).elim (e6.2 d) (hf.defers d),hf.kind,hf.round⟩
     have hag:JM w2 w2' (stepG.apply (PP T F) true ⟨fn,tmps,.inRangeFunc lm.1::k,lm.2++defers,.run,kind,roundOf⟩ (mid++cs0) none (Deferred.ofValue (Frame.eval ⟨fn,tmps,.inRangeFunc lm.1::k,lm.2++defers,.run,kind,roundOf⟩ f) #[.func (.yield lm.1) #[] #[]]>>= fun d=>invoke d.target d.args) w2):=by
      intro j hj
      have:=ht (w2.drawn-w.drawn+j) (fun fr1 cs1 w1 es h=>by
       obtain⟨_,h,_⟩:=Z1 h;have:=hj _ _ _ _ h
       omega)
      have e52:=e5.eq;rw[hmono.2,hmono'.2,show w2'.drawn+j=w'.drawn+(w2.drawn-w.drawn+j)by omega,this];congr 1;omega
     have hsim:=Kn (cs0:=cs0) hC (KI hC.of _ _).tr hf2 rfl hm e2 (hX.kept e3) e4 hag hl;rcases hsim with⟨fr1,mid1,w1,es,g1,g2,g3,g4,g5,g6,g7,g8,g9,g10⟩|hd
     ·refine .inl ⟨fr1,mid1,w1,_,g1,by rw[g2];rfl,g3,g4,g5,g6,e3.trans g7,g8,Dr.trans e5 g9,fun B hB e he=>?_⟩;rcases Array.mem_append.1 he with he|he
      ·exact e7 B (Nat.le_trans g7.size hB) #[] (fun e he=>by simp at he) e (mem_seen he)
      ·exact g10 B hB e he
     ·exact .inr hd
  |inBlock id=>
   simp only[stepG.exec]at hl⊢
   cases hl
   exact go k hk rfl rfl
  |inScope b=>
   simp only[stepG.exec]at hl⊢
   cases hl
   exact go k hk rfl rfl
  |inLoop b=>
   simp only[stepG.exec]at hl⊢
   cases hl
   exact go _ (hk3 hi hi) rfl rfl
  |inRegion ops todo=>
   cases todo with
   |nil=>
    simp only[stepG.exec]at hl⊢
    cases hl
    exact go k hk rfl rfl
   |cons i rest=>
    have e:∀P cs w,stepG.exec P true true ⟨fn,tmps,.inRegion ops (i::rest)::k,defers,.run,kind,roundOf⟩ cs none w=
     if((ops[i]?).map (Region.wanted · (yielded ops tmps))).getD false then stepG.oper P true ⟨fn,tmps,.inRegion ops (i::rest)::k,defers,.run,kind,roundOf⟩ cs none w
     else .go {frame:=Frame.finish ⟨fn,tmps,.inRegion ops (i::rest)::k,defers,.run,kind,roundOf⟩ undef,callers:=cs,status:=.running,dying:=none} w:=by
     intro P cs w;simp[stepG.exec]
    rw[e]at hl ht⊢
    cases hw:((ops[i]?).map (Region.wanted · (yielded ops tmps))).getD false with
    |false=>
     simp only[hw,Bool.false_eq_true,if_false]at hl⊢
     cases hl
     have hfin:=hf.finish undef;exact PF hfin.1 (.inl hfin.2) hm hE hW
    |true=>
     simp only[hw,if_true]at hl ht⊢
     cases ho:ops[i]? with
     |none=>rw[ho]at hw;cases hw
     |some o=>
      have hok:UA T o.op=true:=by
       have:=Array.all_eq_true'.1 hi o (Array.mem_of_getElem? ho);exact this
      have e2:∀P cs w,stepG.oper P true ⟨fn,tmps,.inRegion ops (i::rest)::k,defers,.run,kind,roundOf⟩ cs none w=stepG.apply P true ⟨fn,tmps,.inRegion ops (i::rest)::k,defers,.run,kind,roundOf⟩ cs none (execOp (Frame.eval ⟨fn,tmps,.inRegion ops (i::rest)::k,defers,.run,kind,roundOf⟩) o) w:=by
       intro P cs w;unfold stepG.oper;simp only[Frame.oper?,ho];split
       ·rename_i h;rw[h]at hok;cases hok
       ·rfl
      rw[e2]at hl ht⊢;exact Kn hC (OE hC.of _ o hok).tr hf rfl hm hE hX hW ht hl
  |inRangeFunc l=>
   simp only[stepG.exec]at hl
   cases hl
  |endRangeFunc l=>
   have e:∀P cs w,stepG.exec P true true ⟨fn,tmps,.endRangeFunc l::k,defers,.run,kind,roundOf⟩ cs none w=GStep.after (seen P fn ((Instr.endLoop l).events P w #[])) (match(Instr.endLoop l).run P w with
    | .ok jump w=>.go {frame:=⟨fn,tmps,(jump.map Item.code).toList++k,defers,.run,kind,roundOf⟩,callers:=cs,status:=.running,dying:=none} w
    | .halt (.panic v) w=>.go {frame:=Frame.raise ⟨fn,tmps,.endRangeFunc l::k,defers,.run,kind,roundOf⟩ [{v,recovered:=false}],callers:=cs,status:=.running,dying:=none} w
    | .halt _ w=>.ended (.stuck "range over a function: no such loop" (Frame.pos P ⟨fn,tmps,.endRangeFunc l::k,defers,.run,kind,roundOf⟩)) w):=by
    intro P cs w;simp only[stepG.exec,Sem.runT_eq];generalize (Instr.endLoop l).run P w=r
    cases r with
    |ok j w=>rfl
    |halt h w=>cases h<;>rfl
   rw[e]at hl ht⊢
   obtain⟨ok,bad⟩:=(Qg1 (F:=F) (F':=F') (S:=S) l hi) w w' hE hX hW (fun k hk=>ht k fun fr1 cs1 w1 es h=>by
    obtain⟨_,h,_⟩:=Z1 h
    cases hr:(Instr.endLoop l).run (PP T F) w with
    |halt x y=>
     rw[hr]at h hk
     cases x<;>simp only[GStep.go.injEq]at h<;>first|(cases h;done)|exact h.2.1▸hk
    |ok v w2=>
     rw[hr]at h hk;simp only[GStep.go.injEq]at h
     exact h.2.1▸hk)
   obtain⟨es1,hl,_⟩:=Z1 hl
   cases hr:(Instr.endLoop l).run (PP T F') w' with
   |halt x y=>
    rw[hr]at hl;obtain⟨_,hw⟩:=bad x y hr
    cases x<;>simp only[GStep.go.injEq]at hl<;>try(cases hl;done)
    obtain⟨rfl,rfl,_⟩:=hl;exact .inr ⟨KL hf.defers hm _,hw⟩
   |ok j w2'=>
    rw[hr]at hl;obtain⟨w2,e1,e2,e3,e4,e5,e6,e7⟩:=ok j w2' hr;rw[e1];simp only[GStep.go.injEq]at hl;obtain⟨rfl,rfl,_⟩:=hl;refine .inl ⟨_,mid,w2,_,rfl,rfl,hf.to (fun x hx=>?_),.inl rfl,hm,e2,e3,e4,e5,fun B hB e he=>e7 B hB #[] (fun e he=>by simp at he) e (mem_seen (by simpa using he))⟩;rcases List.mem_append.1 hx with hx|hx
    ·cases j with
     |none=>cases hx
     |some c=>
      simp only[Option.map_some,Option.toList,List.mem_singleton]at hx;subst hx;exact e6 c rfl
    ·exact hk x hx
  |beginRound=>
   simp only[stepG.exec]at hl ht⊢;refine Kn hC ?_ hf rfl hm hE hX hW ht hl;refine(KJ ?_).tr
   cases roundOf with
   |none=>exact Qh _
   |some l=>exact Oq l (hf.round l rfl)
  |call _ _ _ _=>exact hi.elim
  |extern _ _=>exact hi.elim
theorem Qhz (hC:Cut T F F' S){fr:Frame}{mid:List Frame}(hf:FOk T S X fr)(hret:fr.mode=.returning)(hm:MOk T S X mid){w w':World}(hE:Em X w w')(hX:XOk X w)(hW:WOk (LOk T S) w')
 (ht:JM w w' (unwind (PP T F) true fr (mid++cs0) none w)){g1':Goroutine}{w1':World}{es':Array Event}(hl:unwind (PP T F') true fr (mid++ [c0]) none w'=.go g1' w1' es'):
 J7 T S X cs0 w w' g1' w1' (unwind (PP T F) true fr (mid++cs0) none w):=by
 obtain⟨fn,tmps,todo,defers,mode,kind,roundOf⟩:=fr;dsimp only at hret;subst hret
 cases defers with
 |cons d ds=>
  obtain⟨r,hr,hXr⟩:=hf.defers d (QhR ..);obtain⟨tg,args⟩:=d;dsimp only at hr;subst hr
  have e:∀P cs w,unwind P true ⟨fn,tmps,todo,⟨.collected r,args⟩::ds,.returning,kind,roundOf⟩ cs none w=GStep.after (seen P fn ((Instr.takeDeferred r).events P w #[])) (match(Instr.takeDeferred r).run P w with
   | .ok calls w=>.go {frame:=⟨fn,tmps,todo,calls++ds,.returning,kind,roundOf⟩,callers:=cs,status:=.running,dying:=none} w
   | .halt _ w=>.ended (.stuck "the deferred calls of a range-over-func loop have been taken" (Frame.pos P ⟨fn,tmps,todo,⟨.collected r,args⟩::ds,.returning,kind,roundOf⟩)) w):=by
   intro P cs w;simp only[unwind,Sem.runT_eq];generalize (Instr.takeDeferred r).run P w=x
   cases x<;>rfl
  rw[e]at hl ht⊢
  obtain⟨ok,_⟩:=(Qg2 (F:=F) (F':=F') (S:=S) r hXr) w w' hE hX hW (fun k hk=>ht k fun fr1 cs1 w1 es h=>by
   obtain⟨_,h,_⟩:=Z1 h
   cases hr:(Instr.takeDeferred r).run (PP T F) w with
   |halt x y=>rw[hr]at h;cases h
   |ok v w2=>
    rw[hr]at h hk;simp only[GStep.go.injEq]at h
    exact h.2.1▸hk)
  obtain⟨es1,hl,_⟩:=Z1 hl
  cases hr:(Instr.takeDeferred r).run (PP T F') w' with
  |halt x y=>rw[hr]at hl;cases hl
  |ok calls w2'=>
   rw[hr]at hl;obtain⟨w2,e1,e2,e3,e4,e5,rfl,e7⟩:=ok calls w2' hr;rw[e1];simp only[GStep.go.injEq]at hl;obtain⟨rfl,rfl,_⟩:=hl
   exact .inl ⟨⟨fn,tmps,todo,ds,.returning,kind,roundOf⟩,mid,w2,_,rfl,rfl,⟨hf.fn,hf.todo,fun d hd=>hf.defers d (QhS _ hd),hf.kind,hf.round⟩,.inr rfl,hm,e2,e3,e4,e5,
    fun B hB e he=>e7 B hB #[] (fun e he=>by simp at he) e (mem_seen (by simpa using he))⟩
 |nil=>
  have efn:(PP T F').funcs[fn]? =(PP T F).funcs[fn]? :=hC.of.same fn hf.fn
  cases hfn:(PP T F).funcs[fn]? with
  |none=>
   have e:∀cs w,unwind (PP T F) true ⟨fn,tmps,todo,[],.returning,kind,roundOf⟩ cs none w=doReturn (PP T F) true ⟨fn,tmps,todo,[],.returning,kind,roundOf⟩ cs none (tmps.getD 0 undef) w:=by
    intro cs w;simp only[unwind,hfn]
   have e':∀cs w,unwind (PP T F') true ⟨fn,tmps,todo,[],.returning,kind,roundOf⟩ cs none w=doReturn (PP T F') true ⟨fn,tmps,todo,[],.returning,kind,roundOf⟩ cs none (tmps.getD 0 undef) w:=by
    intro cs w;simp only[unwind,efn,hfn]
   rw[e']at hl;rw[e];have:=Pz (T:=T) (S:=S) (X:=X) (cs0:=cs0) (P:=PP T F) (w:=w) (w':=w') (es:=#[]) hf.kind hm hE (QB.refl X w) hW ⟨Nat.le_refl _,Nat.add_comm _ _,rfl,rfl⟩ (fun B _ e he=>by simp at he) hl;have e0:∀s:GStep,GStep.after #[] s=s:=by intro s;cases s<;>simp[GStep.after]
   rw[e0]at this;exact this
  |some f=>
   have e:∀P cs w,P.funcs[fn]? =some f→unwind P true ⟨fn,tmps,todo,[],.returning,kind,roundOf⟩ cs none w=GStep.after (seen P fn ((results f tmps).events P w #[])) (match(results f tmps).run P w with
    | .ok v w=>doReturn P true ⟨fn,tmps,todo,[],.returning,kind,roundOf⟩ cs none v w
    | .halt (.stuck s) w=>.ended (.stuck s (Frame.pos P ⟨fn,tmps,todo,[],.returning,kind,roundOf⟩)) w
    | .halt _ w=>.ended (.stuck "return: the result variables cannot be read" (Frame.pos P ⟨fn,tmps,todo,[],.returning,kind,roundOf⟩)) w):=by
    intro P cs w hP;simp only[unwind,hP,Sem.runT_eq];generalize (results f tmps).run P w=x
    cases x with
    |ok v w=>rfl
    |halt h w=>cases h<;>rfl
   rw[e _ _ _ (efn.trans hfn)]at hl;rw[e _ _ _ hfn]at ht⊢
   obtain⟨ok,_⟩:=(KF (F:=F) (F':=F') (S:=S) f tmps).tr w w' hE hX hW (fun k hk=>ht k fun fr1 cs1 w1 es h=>by
    cases hr:(results f tmps).run (PP T F) w with
    |halt x y=>
     rw[hr]at h;obtain⟨_,h,_⟩:=Z1 h
     cases x<;>cases h
    |ok v w2=>
     rw[hr]at h hk;rw[QaP hf.kind h]
     exact hk)
   obtain⟨es1,hl,_⟩:=Z1 hl
   cases hr:(results f tmps).run (PP T F') w' with
   |halt x y=>rw[hr]at hl;cases x<;>cases hl
   |ok v w2'=>
    rw[hr]at hl;obtain⟨w2,e1,e2,e3,e4,e5,e6,e7⟩:=ok v w2' hr;rw[e1];exact Pz hf.kind hm e2 e3 e4 e5 (fun B hB e he=>e7 B hB #[] (fun e he=>by simp at he) e (mem_seen he)) hl
theorem QgW (hC:Cut T F F' S){fr:Frame}{mid:List Frame}(hf:FOk T S X fr)(hmode:fr.mode=.run∨fr.mode=.returning)(hm:MOk T S X mid){w w':World}(hE:Em X w w')(hX:XOk X w)(hW:WOk (LOk T S) w')
 (ht:JM w w' (stepG (PP T F) true (G fr (mid++cs0)) w)){g1':Goroutine}{w1':World}{es':Array Event}(hl:stepG (PP T F') true (G fr (mid++ [c0])) w'=.go g1' w1' es'):
 J7 T S X cs0 w w' g1' w1' (stepG (PP T F) true (G fr (mid++cs0)) w):=by
 rcases hmode with hmode|hmode
 ·have e:∀P cs w,stepG P true (G fr cs) w=stepG.exec P true true fr cs none w:=by intro P cs w;simp[stepG,G,hmode]
  rw[e]at hl ht⊢;exact Qd6 hC hf hmode hm hE hX hW ht hl
 ·have e:∀P cs w,stepG P true (G fr cs) w=unwind P true fr cs none w:=by intro P cs w;simp[stepG,G,hmode]
  rw[e]at hl ht⊢;exact Qhz hC hf hmode hm hE hX hW ht hl
end
def GE (s:GStep):Prop:=(∃o w es,s=.ended o w es)∨∃g w es,s=.go g w es
section
variable {T:Tables} {F F':Array Func} {S:FuncId→Bool} {X:Nat→Bool} {cs0:List Frame}
theorem Zx (g:Goroutine)(w:World)(es:Array Event):GE (.go g w es):=.inr ⟨g,w,es,rfl⟩
theorem ZY (o:Outcome)(w:World)(es:Array Event):GE (.ended o w es):=.inl ⟨o,w,es,rfl⟩
theorem Qek {c:Prop}[Decidable c]{x y:GStep}(hx:GE x)(hy:GE y):GE (if c then x else y):=by split<;>assumption
theorem Ur {es:Array Event}{s:GStep}(h:GE s):GE (GStep.after es s):=by
 rcases h with⟨o,w,es,rfl⟩|⟨g,w,es,rfl⟩
 ·exact ZY _ _ _
 ·exact Zx _ _ _
theorem KX (P:Program)(fr:Frame)(cs:List Frame)(v:Value)(w:World):GE (doReturn P true fr cs none v w):=by
 unfold doReturn
 repeat' split
 all_goals first|exact Zx _ _ _|exact ZY _ _ _|(exfalso;simp_all;done)
theorem Vz (P:Program)(fn:FuncId)(tmps:Array Value)(todo:List Item)(defers:List Deferred)(kind:CallKind)(roundOf:Option Nat)(cs:List Frame)(w:World)(j:Option Code):GE (ZI P fn tmps todo defers kind roundOf cs w j):=by
 unfold ZI
 cases roundOf with
 |none=>
  exact Qek (Zx _ _ _) (ZY _ _ _)
 |some l=>
  refine Ur ?_;split
  ·exact KX _ _ _ _ _
  ·exact ZY _ _ _
theorem KW {s:Sem Next}(hs:Tr (PP T F) (PP T F') (LOk T S) X (NOk (LOk T S) X S) s s){fr:Frame}{cs:List Frame}{mid:List Frame}
 {w w':World}(hE:Em X w w')(hX:XOk X w)(hW:WOk (LOk T S) w')(ht:JM w w' (stepG.apply (PP T F) true fr (mid++cs0) none s w)):GE (stepG.apply (PP T F') true fr cs none s w'):=by
 obtain⟨ok,bad⟩:=hs w w' hE hX hW (fun k hk=>ht k fun fr1 cs1 w1 es h=>Nat.lt_of_lt_of_le hk (Vj h));unfold stepG.apply;simp only[if_true,Sem.runT_eq];refine Ur ?_
 cases hr:s.run (PP T F') w' with
 |halt h w2'=>
  obtain⟨hh,_⟩:=bad h w2' hr
  cases h with
  |panic v=>exact Zx _ _ _
  |stuck s=>exact ZY _ _ _
  |unsupported u=>cases u<;>first|exact ZY _ _ _|exact hh.elim
  |_=>exact hh.elim
 |ok n w2'=>
  obtain⟨w2,e1,e2,e3,e4,e5,e6,e7⟩:=ok n w2' hr
  cases n<;>simp only[NOk]at e6<;>first|exact e6.elim|exact Zx _ _ _
theorem Qej (hC:Cut T F F' S){fr:Frame}{mid:List Frame}(hf:FOk T S X fr)(hrun:fr.mode=.run){w w':World}(hE:Em X w w')(hX:XOk X w)(hW:WOk (LOk T S) w')
 (ht:JM w w' (stepG.exec (PP T F) true true fr (mid++cs0) none w)){cs:List Frame}:GE (stepG.exec (PP T F') true true fr cs none w'):=by
 obtain⟨fn,tmps,todo,defers,mode,kind,roundOf⟩:=fr;dsimp only at hrun;subst hrun;have htodo:=hf.todo;dsimp only at htodo
 cases todo with
 |nil=>
  have e:∀P cs w,stepG.exec P true true ⟨fn,tmps,[],defers,.run,kind,roundOf⟩ cs none w=ZI P fn tmps [] defers kind roundOf cs w none:=by
   intro P cs w
   cases roundOf<;>simp[stepG.exec,ZI,Sem.runT_eq]<;>rfl
  rw[e];exact Vz _ _ _ _ _ _ _ _ _ _
 |cons i k=>
  have hi:=htodo i (QhR ..)
  cases i with
  |code c=>
   cases c with
   |skip=>exact Zx _ _ _
   |label l=>exact Zx _ _ _
   |seq a b=>exact Zx _ _ _
   |cond c a b=>
    simp only[stepG.exec];split
    ·exact Zx _ _ _
    ·exact ZY _ _ _
   |block id b=>exact Zx _ _ _
   |loop b=>exact Zx _ _ _
   |scope b=>exact Zx _ _ _
   |ret=>
    have e:∀P cs w,stepG.exec P true true ⟨fn,tmps,.code .ret::k,defers,.run,kind,roundOf⟩ cs none w=ZI P fn tmps (.code .ret::k) defers kind roundOf cs w (some .ret):=by
     intro P cs w
     cases roundOf<;>simp[stepG.exec,ZI,Sem.runT_eq]<;>rfl
    rw[e];exact Vz _ _ _ _ _ _ _ _ _ _
   |refuse why=>exact ZY _ _ _
   |exit id=>
    cases hx:exitTo id k with
    |some k2=>simp only[stepG.exec,hx,Option.elim];exact Zx _ _ _
    |none=>
     have e:∀P cs w,stepG.exec P true true ⟨fn,tmps,.code (.exit id)::k,defers,.run,kind,roundOf⟩ cs none w=ZI P fn tmps (.code (.exit id)::k) defers kind roundOf cs w (some (.exit id)):=by
      intro P cs w
      cases roundOf<;>simp[stepG.exec,ZI,Sem.runT_eq,hx]<;>rfl
     rw[e];exact Vz _ _ _ _ _ _ _ _ _ _
   |goto l=>
    cases hx:gotoIn l k with
    |some k2=>simp only[stepG.exec,hx,Option.elim];exact Zx _ _ _
    |none=>
     have e:∀P cs w,stepG.exec P true true ⟨fn,tmps,.code (.goto l)::k,defers,.run,kind,roundOf⟩ cs none w=ZI P fn tmps (.code (.goto l)::k) defers kind roundOf cs w (some (.goto l)):=by
      intro P cs w
      cases roundOf<;>simp[stepG.exec,ZI,Sem.runT_eq,hx]<;>rfl
     rw[e];exact Vz _ _ _ _ _ _ _ _ _ _
   |region id ops draw=>
    simp only[stepG.exec];split
    ·exact Zx _ _ _
    ·split
     ·exact Zx _ _ _
     ·exact ZY _ _ _
   |rangeFunc f ps a b=>
    simp only[Z5,QQ,Bool.and_eq_true]at hi;have hen:=Qbf (F:=F) (F':=F') (S:=S) (X:=X) fn tmps ps a b roundOf hf.fn hi.1 hi.2 hf.round
    have e:∀P cs w,stepG.exec P true true ⟨fn,tmps,.code (.rangeFunc f ps a b)::k,defers,.run,kind,roundOf⟩ cs none w=
     GStep.after (seen P fn ((Instr.enterLoop fn tmps ps a b roundOf).events P w #[])) (match(Instr.enterLoop fn tmps ps a b roundOf).run P w with
     | .ok lm w=>stepG.apply P true ⟨fn,tmps,.inRangeFunc lm.1::k,lm.2++defers,.run,kind,roundOf⟩ cs none (Deferred.ofValue (Frame.eval ⟨fn,tmps,.inRangeFunc lm.1::k,lm.2++defers,.run,kind,roundOf⟩ f) #[.func (.yield lm.1) #[] #[]]>>= fun d=>invoke d.target d.args) w
     | .halt _ w=>.ended (.stuck "range over a function: no such loop" (Frame.pos P ⟨fn,tmps,.code (.rangeFunc f ps a b)::k,defers,.run,kind,roundOf⟩)) w):=by
     intro P cs w;simp only[stepG.exec,Sem.runT_eq];generalize (Instr.enterLoop fn tmps ps a b roundOf).run P w=r
     cases r with
     |ok lm w=>
      obtain⟨l,m⟩:=lm;simp only[resolve,List.map_toArray,List.map_cons,List.map_nil];rfl
     |halt h w=>rfl
    rw[e]at ht⊢
    obtain⟨ok,_⟩:=hen w w' hE hX hW (fun k hk=>ht k fun fr1 cs1 w1 es h=>by
     obtain⟨_,h,_⟩:=Z1 h
     cases hr:(Instr.enterLoop fn tmps ps a b roundOf).run (PP T F) w with
     |halt x y=>rw[hr]at h;cases h
     |ok lm w2=>
      rw[hr]at h hk
      exact Nat.lt_of_lt_of_le hk (Nat.le_trans (J2 _ _ _).1 (Vj h)))
    refine Ur ?_
    cases hr:(Instr.enterLoop fn tmps ps a b roundOf).run (PP T F') w' with
    |halt x y=>exact ZY _ _ _
    |ok lm w2'=>
     obtain⟨w2,e1,e2,e3,e4,e5,e6,e7⟩:=ok lm w2' hr;have hmono:=(J2 (PP T F) (Instr.enterLoop fn tmps ps a b roundOf) w);have hmono':=(J2 (PP T F') (Instr.enterLoop fn tmps ps a b roundOf) w');rw[e1]at hmono;rw[hr]at hmono';simp only[rw]at hmono hmono';rw[e1]at ht;dsimp only at ht⊢
     have hag:JM w2 w2' (stepG.apply (PP T F) true ⟨fn,tmps,.inRangeFunc lm.1::k,lm.2++defers,.run,kind,roundOf⟩ (mid++cs0) none (Deferred.ofValue (Frame.eval ⟨fn,tmps,.inRangeFunc lm.1::k,lm.2++defers,.run,kind,roundOf⟩ f) #[.func (.yield lm.1) #[] #[]]>>= fun d=>invoke d.target d.args) w2):=by
      intro j hj
      have:=ht (w2.drawn-w.drawn+j) (fun fr1 cs1 w1 es h=>by
       obtain⟨_,h,_⟩:=Z1 h;have:=hj _ _ _ _ h
       omega)
      have e52:=e5.eq;rw[hmono.2,hmono'.2,show w2'.drawn+j=w'.drawn+(w2.drawn-w.drawn+j)by omega,this];congr 1;omega
     exact KW (KI hC.of _ _).tr e2 (hX.kept e3) e4 hag
  |inBlock id=>exact Zx _ _ _
  |inScope b=>exact Zx _ _ _
  |inLoop b=>exact Zx _ _ _
  |inRegion ops todo=>
   cases todo with
   |nil=>exact Zx _ _ _
   |cons i rest=>
    have e:∀P cs w,stepG.exec P true true ⟨fn,tmps,.inRegion ops (i::rest)::k,defers,.run,kind,roundOf⟩ cs none w=
     if((ops[i]?).map (Region.wanted · (yielded ops tmps))).getD false then stepG.oper P true ⟨fn,tmps,.inRegion ops (i::rest)::k,defers,.run,kind,roundOf⟩ cs none w
     else .go {frame:=Frame.finish ⟨fn,tmps,.inRegion ops (i::rest)::k,defers,.run,kind,roundOf⟩ undef,callers:=cs,status:=.running,dying:=none} w:=by
     intro P cs w;simp[stepG.exec]
    rw[e]at ht⊢
    cases hw:((ops[i]?).map (Region.wanted · (yielded ops tmps))).getD false with
    |false=>simp only[Bool.false_eq_true,if_false];exact Zx _ _ _
    |true=>
     simp only[hw,if_true]at ht⊢
     cases ho:ops[i]? with
     |none=>rw[ho]at hw;cases hw
     |some o=>
      have hok:UA T o.op=true:=by
       have:=Array.all_eq_true'.1 hi o (Array.mem_of_getElem? ho);exact this
      have e2:∀P cs w,stepG.oper P true ⟨fn,tmps,.inRegion ops (i::rest)::k,defers,.run,kind,roundOf⟩ cs none w=stepG.apply P true ⟨fn,tmps,.inRegion ops (i::rest)::k,defers,.run,kind,roundOf⟩ cs none (execOp (Frame.eval ⟨fn,tmps,.inRegion ops (i::rest)::k,defers,.run,kind,roundOf⟩) o) w:=by
       intro P cs w;unfold stepG.oper;simp only[Frame.oper?,ho];split
       ·rename_i h;rw[h]at hok;cases hok
       ·rfl
      rw[e2]at ht⊢;exact KW (OE hC.of _ o hok).tr hE hX hW ht
  |inRangeFunc l=>exact ZY _ _ _
  |endRangeFunc l=>
   simp only[stepG.exec,Sem.runT_eq];refine Ur ?_;split
   ·exact Zx _ _ _
   ·exact Zx _ _ _
   ·exact ZY _ _ _
  |beginRound=>
   simp only[stepG.exec]at ht⊢;refine KW ?_ hE hX hW ht;refine(KJ ?_).tr
   cases roundOf with
   |none=>exact Qh _
   |some l=>exact Oq l (hf.round l rfl)
  |call _ _ _ _=>exact hi.elim
  |extern _ _=>exact hi.elim
theorem O3 {P:Program}{fr:Frame}(hd:∀d∈fr.defers,Uc X d){cs:List Frame}(hcs:cs≠[]){w:World}:GE (unwind P true fr cs none w):=by
 unfold unwind;split
 ·rw[Sem.runT_eq];refine Ur ?_;split
  ·exact Zx _ _ _
  ·exact ZY _ _ _
 ·rename_i d ds hn hds;obtain⟨r,hr,_⟩:=hd d (by rw[hds];exact QhR ..)
  exact absurd hr (by
   intro h
   exact hn r d.args (by cases d;simp_all))
 ·split
  ·exact ZY _ _ _
  ·split
   ·exact ZY _ _ _
   ·cases cs with
    |nil=>exact absurd rfl hcs
    |cons c cs=>exact Zx _ _ _
  ·split
   ·exact KX _ _ _ _ _
   ·rw[Sem.runT_eq];refine Ur ?_;split
    ·exact KX _ _ _ _ _
    ·exact ZY _ _ _
    ·exact ZY _ _ _
theorem Qel (hC:Cut T F F' S){fr:Frame}{mid:List Frame}(hf:FOk T S X fr)(hmode:fr.mode=.run∨fr.mode=.returning){w w':World}(hE:Em X w w')(hX:XOk X w)(hW:WOk (LOk T S) w')
 (ht:JM w w' (stepG (PP T F) true (G fr (mid++cs0)) w)):GE (stepG (PP T F') true (G fr (mid++ [c0])) w'):=by
 rcases hmode with hmode|hmode
 ·have e:∀P cs w,stepG P true (G fr cs) w=stepG.exec P true true fr cs none w:=by intro P cs w;simp[stepG,G,hmode]
  rw[e]at ht⊢;exact Qej hC hf hmode hE hX hW ht
 ·have e:∀P cs w,stepG P true (G fr cs) w=unwind P true fr cs none w:=by intro P cs w;simp[stepG,G,hmode]
  rw[e];exact O3 hf.defers (by simp)
theorem Qei {P':Program}{g:Goroutine}{w:World}(hg:YQ T S X g):GE (stepG P' true g w):=by
 rcases hg with⟨fr,mid,chain,rfl,hm,hd,hmid⟩|⟨chain,rfl⟩|⟨v,rfl⟩
 ·have e:stepG P' true (G fr (mid++ [c0])) w=unwind P' true fr (mid++ [c0]) none w:=by simp[stepG,G,hm]
  rw[e];exact O3 hd (by simp)
 ·have:stepG P' true (G (c0.raise chain) []) w=.ended (.unsupported (.noEntry "machine/Return: a deferred call of a nil function value, made while the frame is unwinding") (({c0.raise chain with defers:=[]}:Frame).pos P')) w:=by
   simp[stepG,G,c0,Frame.raise,unwind,callDeferred]
  rw[this];exact ZY _ _ _
 ·have:∃o,stepG P' true (G (c0.finish v) []) w=.ended o w:=by
   simp[stepG,G,c0,Frame.finish,stepG.exec]
  obtain⟨o,ho⟩:=this;rw[ho];exact ZY _ _ _
end
end Co
end Go.Proofs.YtcpnkpogebjieaaGreat
