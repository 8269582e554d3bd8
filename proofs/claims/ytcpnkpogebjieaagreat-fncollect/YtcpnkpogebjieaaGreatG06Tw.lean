/- A step of a frame that the cut lets by goes on or ends the run: it starts nothing, and -/
import Derived.Test.YtcpnkpogebjieaaGreatG05Tp
namespace Go.Proofs.YtcpnkpogebjieaaGreat
namespace Co
open Go.Conc
def GE (s:GStep):Prop:=(∃o w es,s=.ended o w es)∨∃g w es,s=.go g w es
section
variable {T:Tables} {F F':Array Func} {S:FuncId→Bool} {X:Nat→Bool} {cs0:List Frame}
theorem Zv (g:Goroutine)(w:World)(es:Array Event):GE (.go g w es):=.inr ⟨g,w,es,rfl⟩
theorem ZS (o:Outcome)(w:World)(es:Array Event):GE (.ended o w es):=.inl ⟨o,w,es,rfl⟩
theorem QdN {c:Prop}[Decidable c]{x y:GStep}(hx:GE x)(hy:GE y):GE (if c then x else y):=by split<;>assumption
theorem Ub {es:Array Event}{s:GStep}(h:GE s):GE (GStep.after es s):=by
 rcases h with⟨o,w,es,rfl⟩|⟨g,w,es,rfl⟩
 ·exact ZS _ _ _
 ·exact Zv _ _ _
theorem Kq (P:Program)(fr:Frame)(cs:List Frame)(v:Value)(w:World):GE (doReturn P true fr cs none v w):=by
 unfold doReturn
 repeat' split
 all_goals first|exact Zv _ _ _|exact ZS _ _ _|(exfalso;simp_all;done)
theorem Vl (P:Program)(fn:FuncId)(tmps:Array Value)(todo:List Item)(defers:List Deferred)(kind:CallKind)(roundOf:Option Nat)(cs:List Frame)(w:World)(j:Option Code):GE (ZE P fn tmps todo defers kind roundOf cs w j):=by
 unfold ZE
 cases roundOf with
 |none=>
  exact QdN (Zv _ _ _) (ZS _ _ _)
 |some l=>
  refine Ub ?_
  split
  ·exact Kq _ _ _ _ _
  ·exact ZS _ _ _
theorem Kp {s:Sem Next}(hs:Tr (PP T F) (PP T F') (LOk T S) X (NOk (LOk T S) X S) s s){fr:Frame}{cs:List Frame}{mid:List Frame}
 {w w':World}(hE:Em X w w')(hX:XOk X w)(hW:WOk (LOk T S) w')(ht:JD w w' (stepG.apply (PP T F) true fr (mid++cs0) none s w)):GE (stepG.apply (PP T F') true fr cs none s w'):=by
 obtain⟨ok,bad⟩:=hs w w' hE hX hW (fun k hk=>ht k fun fr1 cs1 w1 es h=>Nat.lt_of_lt_of_le hk (U6 h))
 unfold stepG.apply
 simp only[if_true,Sem.runT_eq]
 refine Ub ?_
 cases hr:s.run (PP T F') w' with
 |halt h w2'=>
  obtain⟨hh,_⟩:=bad h w2' hr
  cases h with
  |panic v=>exact Zv _ _ _
  |stuck s=>exact ZS _ _ _
  |unsupported u=>cases u<;>first|exact ZS _ _ _|exact hh.elim
  |_=>exact hh.elim
 |ok n w2'=>
  obtain⟨w2,e1,e2,e3,e4,e5,e6,e7⟩:=ok n w2' hr
  cases n<;>simp only[NOk]at e6<;>first|exact e6.elim|exact Zv _ _ _
theorem QdM (hC:Cut T F F' S){fr:Frame}{mid:List Frame}(hf:FOk T S X fr)(hrun:fr.mode=.run){w w':World}(hE:Em X w w')(hX:XOk X w)(hW:WOk (LOk T S) w')
 (ht:JD w w' (stepG.exec (PP T F) true true fr (mid++cs0) none w)){cs:List Frame}:GE (stepG.exec (PP T F') true true fr cs none w'):=by
 obtain⟨fn,tmps,todo,defers,mode,kind,roundOf⟩:=fr
 dsimp only at hrun
 subst hrun
 have htodo:=hf.todo
 dsimp only at htodo
 cases todo with
 |nil=>
  have e:∀P cs w,stepG.exec P true true ⟨fn,tmps,[],defers,.run,kind,roundOf⟩ cs none w=ZE P fn tmps [] defers kind roundOf cs w none:=by
   intro P cs w
   cases roundOf<;>simp[stepG.exec,ZE,Sem.runT_eq]<;>rfl
  rw[e]
  exact Vl _ _ _ _ _ _ _ _ _ _
 |cons i k=>
  have hi:=htodo i (List.mem_cons_self ..)
  cases i with
  |code c=>
   cases c with
   |skip=>exact Zv _ _ _
   |label l=>exact Zv _ _ _
   |seq a b=>exact Zv _ _ _
   |cond c a b=>
    simp only[stepG.exec]
    split
    ·exact Zv _ _ _
    ·exact ZS _ _ _
   |block id b=>exact Zv _ _ _
   |loop b=>exact Zv _ _ _
   |scope b=>exact Zv _ _ _
   |ret=>
    have e:∀P cs w,stepG.exec P true true ⟨fn,tmps,.code .ret::k,defers,.run,kind,roundOf⟩ cs none w=ZE P fn tmps (.code .ret::k) defers kind roundOf cs w (some .ret):=by
     intro P cs w
     cases roundOf<;>simp[stepG.exec,ZE,Sem.runT_eq]<;>rfl
    rw[e]
    exact Vl _ _ _ _ _ _ _ _ _ _
   |refuse why=>exact ZS _ _ _
   |exit id=>
    cases hx:exitTo id k with
    |some k2=>simp only[stepG.exec,hx,Option.elim];exact Zv _ _ _
    |none=>
     have e:∀P cs w,stepG.exec P true true ⟨fn,tmps,.code (.exit id)::k,defers,.run,kind,roundOf⟩ cs none w=ZE P fn tmps (.code (.exit id)::k) defers kind roundOf cs w (some (.exit id)):=by
      intro P cs w
      cases roundOf<;>simp[stepG.exec,ZE,Sem.runT_eq,hx]<;>rfl
     rw[e]
     exact Vl _ _ _ _ _ _ _ _ _ _
   |goto l=>
    cases hx:gotoIn l k with
    |some k2=>simp only[stepG.exec,hx,Option.elim];exact Zv _ _ _
    |none=>
     have e:∀P cs w,stepG.exec P true true ⟨fn,tmps,.code (.goto l)::k,defers,.run,kind,roundOf⟩ cs none w=ZE P fn tmps (.code (.goto l)::k) defers kind roundOf cs w (some (.goto l)):=by
      intro P cs w
      cases roundOf<;>simp[stepG.exec,ZE,Sem.runT_eq,hx]<;>rfl
     rw[e]
     exact Vl _ _ _ _ _ _ _ _ _ _
   |region id ops draw=>
    simp only[stepG.exec]
    split
    ·exact Zv _ _ _
    ·split
     ·exact Zv _ _ _
     ·exact ZS _ _ _
   |rangeFunc f ps a b=>
    simp only[ZY,QO,Bool.and_eq_true]at hi
    have hen:=QaF (F:=F) (F':=F') (S:=S) (X:=X) fn tmps ps a b roundOf hf.fn hi.1 hi.2 hf.round
    have e:∀P cs w,stepG.exec P true true ⟨fn,tmps,.code (.rangeFunc f ps a b)::k,defers,.run,kind,roundOf⟩ cs none w=
     GStep.after (seen P fn ((Instr.enterLoop fn tmps ps a b roundOf).events P w #[])) (match(Instr.enterLoop fn tmps ps a b roundOf).run P w with
     | .ok lm w=>stepG.apply P true ⟨fn,tmps,.inRangeFunc lm.1::k,lm.2++defers,.run,kind,roundOf⟩ cs none (Deferred.ofValue (Frame.eval ⟨fn,tmps,.inRangeFunc lm.1::k,lm.2++defers,.run,kind,roundOf⟩ f) #[.func (.yield lm.1) #[] #[]]>>= fun d=>invoke d.target d.args) w
     | .halt _ w=>.ended (.stuck "range over a function: no such loop" (Frame.pos P ⟨fn,tmps,.code (.rangeFunc f ps a b)::k,defers,.run,kind,roundOf⟩)) w):=by
     intro P cs w
     simp only[stepG.exec,Sem.runT_eq]
     generalize (Instr.enterLoop fn tmps ps a b roundOf).run P w=r
     cases r with
     |ok lm w=>
      obtain⟨l,m⟩:=lm
      simp only[resolve,List.map_toArray,List.map_cons,List.map_nil]
      rfl
     |halt h w=>rfl
    rw[e]at ht⊢
    obtain⟨ok,_⟩:=hen w w' hE hX hW (fun k hk=>ht k fun fr1 cs1 w1 es h=>by
     obtain⟨_,h,_⟩:=ZU h
     cases hr:(Instr.enterLoop fn tmps ps a b roundOf).run (PP T F) w with
     |halt x y=>rw[hr]at h;cases h
     |ok lm w2=>
      rw[hr]at h hk
      exact Nat.lt_of_lt_of_le hk (Nat.le_trans (JU _ _ _).1 (U6 h)))
    refine Ub ?_
    cases hr:(Instr.enterLoop fn tmps ps a b roundOf).run (PP T F') w' with
    |halt x y=>exact ZS _ _ _
    |ok lm w2'=>
     obtain⟨w2,e1,e2,e3,e4,e5,e6,e7⟩:=ok lm w2' hr
     have hmono:=(JU (PP T F) (Instr.enterLoop fn tmps ps a b roundOf) w)
     have hmono':=(JU (PP T F') (Instr.enterLoop fn tmps ps a b roundOf) w')
     rw[e1]at hmono
     rw[hr]at hmono'
     simp only[rw]at hmono hmono'
     rw[e1]at ht
     dsimp only at ht⊢
     have hag:JD w2 w2' (stepG.apply (PP T F) true ⟨fn,tmps,.inRangeFunc lm.1::k,lm.2++defers,.run,kind,roundOf⟩ (mid++cs0) none (Deferred.ofValue (Frame.eval ⟨fn,tmps,.inRangeFunc lm.1::k,lm.2++defers,.run,kind,roundOf⟩ f) #[.func (.yield lm.1) #[] #[]]>>= fun d=>invoke d.target d.args) w2):=by
      intro j hj
      have:=ht (w2.drawn-w.drawn+j) (fun fr1 cs1 w1 es h=>by
       obtain⟨_,h,_⟩:=ZU h
       have:=hj _ _ _ _ h
       omega)
      have e52:=e5.eq
      rw[hmono.2,hmono'.2,show w2'.drawn+j=w'.drawn+(w2.drawn-w.drawn+j)by omega,this]
      congr 1
      omega
     exact Kp (Kc hC.of _ _).tr e2 (hX.kept e3) e4 hag
  |inBlock id=>exact Zv _ _ _
  |inScope b=>exact Zv _ _ _
  |inLoop b=>exact Zv _ _ _
  |inRegion ops todo=>
   cases todo with
   |nil=>exact Zv _ _ _
   |cons i rest=>
    have e:∀P cs w,stepG.exec P true true ⟨fn,tmps,.inRegion ops (i::rest)::k,defers,.run,kind,roundOf⟩ cs none w=
     if((ops[i]?).map (Region.wanted · (yielded ops tmps))).getD false then stepG.oper P true ⟨fn,tmps,.inRegion ops (i::rest)::k,defers,.run,kind,roundOf⟩ cs none w
     else .go {frame:=Frame.finish ⟨fn,tmps,.inRegion ops (i::rest)::k,defers,.run,kind,roundOf⟩ undef,callers:=cs,status:=.running,dying:=none} w:=by
     intro P cs w
     simp[stepG.exec]
    rw[e]at ht⊢
    cases hw:((ops[i]?).map (Region.wanted · (yielded ops tmps))).getD false with
    |false=>simp only[Bool.false_eq_true,if_false];exact Zv _ _ _
    |true=>
     simp only[hw,if_true]at ht⊢
     cases ho:ops[i]? with
     |none=>rw[ho]at hw;cases hw
     |some o=>
      have hok:Uj T o.op=true:=by
       have:=Array.all_eq_true'.1 hi o (Array.mem_of_getElem? ho)
       exact this
      have e2:∀P cs w,stepG.oper P true ⟨fn,tmps,.inRegion ops (i::rest)::k,defers,.run,kind,roundOf⟩ cs none w=stepG.apply P true ⟨fn,tmps,.inRegion ops (i::rest)::k,defers,.run,kind,roundOf⟩ cs none (execOp (Frame.eval ⟨fn,tmps,.inRegion ops (i::rest)::k,defers,.run,kind,roundOf⟩) o) w:=by
       intro P cs w
       unfold stepG.oper
       simp only[Frame.oper?,ho]
       split
       ·rename_i h;rw[h]at hok;cases hok
       ·rfl
      rw[e2]at ht⊢
      exact Kp (PY hC.of _ o hok).tr hE hX hW ht
  |inRangeFunc l=>exact ZS _ _ _
  |endRangeFunc l=>
   simp only[stepG.exec,Sem.runT_eq]
   refine Ub ?_
   split
   ·exact Zv _ _ _
   ·exact Zv _ _ _
   ·exact ZS _ _ _
  |beginRound=>
   simp only[stepG.exec]at ht⊢
   refine Kp ?_ hE hX hW ht
   refine(Kd ?_).tr
   cases roundOf with
   |none=>exact Qf _
   |some l=>exact PM l (hf.round l rfl)
  |call _ _ _ _=>exact hi.elim
  |extern _ _=>exact hi.elim
theorem Oq {P:Program}{fr:Frame}(hd:∀d∈fr.defers,YW X d){cs:List Frame}(hcs:cs≠[]){w:World}:GE (unwind P true fr cs none w):=by
 unfold unwind
 split
 ·rw[Sem.runT_eq]
  refine Ub ?_
  split
  ·exact Zv _ _ _
  ·exact ZS _ _ _
 ·rename_i d ds hn hds
  obtain⟨r,hr,_⟩:=hd d (by rw[hds];exact List.mem_cons_self ..)
  exact absurd hr (by
   intro h
   exact hn r d.args (by cases d;simp_all))
 ·split
  ·exact ZS _ _ _
  ·split
   ·exact ZS _ _ _
   ·cases cs with
    |nil=>exact absurd rfl hcs
    |cons c cs=>exact Zv _ _ _
  ·split
   ·exact Kq _ _ _ _ _
   ·rw[Sem.runT_eq]
    refine Ub ?_
    split
    ·exact Kq _ _ _ _ _
    ·exact ZS _ _ _
    ·exact ZS _ _ _
theorem QdO (hC:Cut T F F' S){fr:Frame}{mid:List Frame}(hf:FOk T S X fr)(hmode:fr.mode=.run∨fr.mode=.returning){w w':World}(hE:Em X w w')(hX:XOk X w)(hW:WOk (LOk T S) w')
 (ht:JD w w' (stepG (PP T F) true (G fr (mid++cs0)) w)):GE (stepG (PP T F') true (G fr (mid++ [c0])) w'):=by
 rcases hmode with hmode|hmode
 ·have e:∀P cs w,stepG P true (G fr cs) w=stepG.exec P true true fr cs none w:=by intro P cs w;simp[stepG,G,hmode]
  rw[e]at ht⊢
  exact QdM hC hf hmode hE hX hW ht
 ·have e:∀P cs w,stepG P true (G fr cs) w=unwind P true fr cs none w:=by intro P cs w;simp[stepG,G,hmode]
  rw[e]
  exact Oq hf.defers (by simp)
theorem QdL {P':Program}{g:Goroutine}{w:World}(hg:YH T S X g):GE (stepG P' true g w):=by
 rcases hg with⟨fr,mid,chain,rfl,hm,hd,hmid⟩|⟨chain,rfl⟩|⟨v,rfl⟩
 ·have e:stepG P' true (G fr (mid++ [c0])) w=unwind P' true fr (mid++ [c0]) none w:=by simp[stepG,G,hm]
  rw[e]
  exact Oq hd (by simp)
 ·have:stepG P' true (G (c0.raise chain) []) w=.ended (.unsupported (.noEntry "machine/Return: a deferred call of a nil function value, made while the frame is unwinding") (({c0.raise chain with defers:=[]}:Frame).pos P')) w:=by
   simp[stepG,G,c0,Frame.raise,unwind,callDeferred]
  rw[this]
  exact ZS _ _ _
 ·have:∃o,stepG P' true (G (c0.finish v) []) w=.ended o w:=by
   simp[stepG,G,c0,Frame.finish,stepG.exec]
  obtain⟨o,ho⟩:=this
  rw[ho]
  exact ZS _ _ _
end
end Co
namespace Co
open Go.Conc
inductive Way (P:Program) (X:Nat→Bool) (Fin:Goroutine→World→Prop):Goroutine→World→Prop
 |stop {g:Goroutine} {w:World}:Fin g w→Way P X Fin g w
 |step {g:Goroutine} {w:World}:g.status=.running→(∀d,∃g' w' es,stepG P true g (w.at d)=.go g' w' es∧w.heap.size≤w'.heap.size∧∀B,w'.heap.size≤B→∀e∈es,Ev X B e)→(∀d g' w' es,stepG P true g (w.at d)=.go g' w' es→Way P X Fin g' w')→Way P X Fin g w
section
variable (P:Program) (X:Nat→Bool) (Fin:Goroutine→World→Prop)
open Classical in
noncomputable def Jh (s:Goroutine×World):Nat:=
 if h:∃d,∀g' w' es,stepG P true s.1 (s.2.at d)=.go g' w' es→(s.2.heap.size≤w'.heap.size∧∀B,w'.heap.size≤B→∀e∈es,Ev X B e)→¬Way P X Fin g' w' then Classical.choose h else 0
def Up (s s':Goroutine×World):Prop:=∃fr cs es,stepG P true s.1 (s.2.at (Jh P X Fin s))=.go s'.1 s'.2 es∧s'.1=G fr cs∧Jh P X Fin s≤s'.2.drawn
open Classical in
noncomputable def Yz (s:Goroutine×World):Option (Goroutine×World):=if h:∃s',Up P X Fin s s' then some (Classical.choose h)else none
noncomputable def ZH (s0:Goroutine×World):Nat→Goroutine×World
 |0=>s0
 |i+1=>(Yz P X Fin (ZH s0 i)).getD (ZH s0 i)
noncomputable def ZG (s0:Goroutine×World):Nat→Nat
 |0=>0
 |i+1=>ZG s0 i+match Yz P X Fin (ZH P X Fin s0 i)with
  |some s'=>s'.2.drawn-Jh P X Fin (ZH P X Fin s0 i)
  |none=>0
def Of (s0:Goroutine×World)(i j:Nat):Prop:=ZG P X Fin s0 i≤j∧(j<ZG P X Fin s0 (i+1)∨Yz P X Fin (ZH P X Fin s0 i)=none)
open Classical in
noncomputable def YF (s0:Goroutine×World)(j:Nat):Question→Nat:=
 if h:∃i,Of P X Fin s0 i j then s0.2.tape (Jh P X Fin (ZH P X Fin s0 (Classical.choose h))+(j-ZG P X Fin s0 (Classical.choose h)))else fun _=>0
variable {P X Fin}
theorem Qe3 {s s':Goroutine×World}(h:Up P X Fin s s'):Yz P X Fin s=some s':=by
 have hx:∃s',Up P X Fin s s':=⟨s',h⟩
 have hc:=Classical.choose_spec hx
 unfold Yz
 rw[dif_pos hx]
 obtain⟨fr,cs,es,h1,_,_⟩:=h
 obtain⟨fr2,cs2,es2,h2,_,_⟩:=hc
 rw[h1]at h2
 simp only[GStep.go.injEq]at h2
 obtain⟨e1,e2,_⟩:=h2
 exact congrArg some (Prod.ext e1.symm e2.symm)
theorem Qf1 (s0:Goroutine×World){i j:Nat}(h:i≤j):ZG P X Fin s0 i≤ZG P X Fin s0 j:=by
 induction h with
 |refl=>exact Nat.le_refl _
 |step _ ih=>exact Nat.le_trans ih (Nat.le_add_right _ _)
theorem Qgl (s0:Goroutine×World){i:Nat}(hn:Yz P X Fin (ZH P X Fin s0 i)=none){j:Nat}(h:i≤j):ZH P X Fin s0 j=ZH P X Fin s0 i∧ZG P X Fin s0 j=ZG P X Fin s0 i:=by
 induction h with
 |refl=>exact⟨rfl,rfl⟩
 |step _ ih=>
  obtain⟨h1,h2⟩:=ih
  simp only[ZH,ZG,h1,h2,hn]
  exact⟨rfl,rfl⟩
theorem OY {s0:Goroutine×World}{i i' j:Nat}(h:Of P X Fin s0 i j)(h':Of P X Fin s0 i' j)(hlt:i<i'):ZH P X Fin s0 i'=ZH P X Fin s0 i∧ZG P X Fin s0 i'=ZG P X Fin s0 i:=by
 have hm:=Qf1 (P:=P) (X:=X) (Fin:=Fin) s0 (show i+1≤i' from hlt)
 rcases h.2 with h2|h2
 ·have:=h'.1
  omega
 ·exact Qgl s0 h2 (Nat.le_of_lt hlt)
theorem Qgd {s0:Goroutine×World}{i j:Nat}(h:Of P X Fin s0 i j):YF P X Fin s0 j=s0.2.tape (Jh P X Fin (ZH P X Fin s0 i)+(j-ZG P X Fin s0 i)):=by
 have hx:∃i,Of P X Fin s0 i j:=⟨i,h⟩
 unfold YF
 rw[dif_pos hx]
 have hc:=Classical.choose_spec hx
 have:ZH P X Fin s0 (Classical.choose hx)=ZH P X Fin s0 i∧ZG P X Fin s0 (Classical.choose hx)=ZG P X Fin s0 i:=by
  rcases Nat.lt_trichotomy (Classical.choose hx) i with hl|he|hl
  ·obtain⟨e1,e2⟩:=OY hc h hl
   exact⟨e1.symm,e2.symm⟩
  ·rw[he];exact⟨rfl,rfl⟩
  ·exact OY h hc hl
 rw[this.1,this.2]
theorem QeE {g:Goroutine}{w:World}(hr:g.status=.running)(h:¬Way P X Fin g w){g':Goroutine}{w':World}{es:Array Event}(hs:stepG P true g (w.at (Jh P X Fin (g,w)))=.go g' w' es)
 (he:w.heap.size≤w'.heap.size∧∀B,w'.heap.size≤B→∀e∈es,Ev X B e):¬Way P X Fin g' w':=by
 have hx:∃d,∀g' w' es,stepG P true g (w.at d)=.go g' w' es→(w.heap.size≤w'.heap.size∧∀B,w'.heap.size≤B→∀e∈es,Ev X B e)→¬Way P X Fin g' w':=by
  apply Classical.byContradiction
  intro hn
  have key:∀d,∃g' w' es,stepG P true g (w.at d)=.go g' w' es∧(w.heap.size≤w'.heap.size∧∀B,w'.heap.size≤B→∀e∈es,Ev X B e)∧Way P X Fin g' w':=by
   intro d
   apply Classical.byContradiction
   intro hd
   exact hn ⟨d,fun g' w' es h1 h2 h3=>hd ⟨g',w',es,h1,h2,h3⟩⟩
  refine h (.step hr (fun d=>?_) fun d g' w' es hs=>?_)
  ·obtain⟨g',w',es,h1,h2,_⟩:=key d
   exact⟨g',w',es,h1,h2⟩
  ·obtain⟨g2,w2,es2,h1,_,h3⟩:=key d
   rw[h1]at hs
   simp only[GStep.go.injEq]at hs
   obtain⟨rfl,rfl,_⟩:=hs
   exact h3
 have e:Jh P X Fin (g,w)=Classical.choose hx:=by
  unfold Jh
  exact dif_pos hx
 rw[e]at hs
 exact Classical.choose_spec hx g' w' es hs he
end
section
variable {T:Tables} {F F':Array Func} {S:FuncId→Bool} {X:Nat→Bool} {cs0:List Frame} {Fin:Goroutine→World→Prop}
theorem Qc6 {P':Program}:∀(n:Nat) (g:Goroutine) (w:World),YH T S X g→WOk (LOk T S) w→∀fr1 mid1 w1,(fr1.mode=.run∨fr1.mode=.returning)→runN P' n (lone g.frame g.callers w)≠.next (lone fr1 (mid1++ [c0]) w1):=by
 intro n
 have form:∀g,YH T S X g→g=G g.frame g.callers:=by
  rintro g (⟨fr,mid,chain,rfl,_⟩|⟨chain,rfl⟩|⟨v,rfl⟩)<;>rfl
 induction n with
 |zero=>
  intro g w hg _ fr1 mid1 w1 hm h
  simp only[runN,lone,Stepped.next.injEq,Machine.mk.injEq]at h
  have h2:=h.2.1
  simp only[Array.mk.injEq,List.cons.injEq,Goroutine.mk.injEq,and_true]at h2
  rcases hg with⟨fr,mid,chain,rfl,hp,_⟩|⟨chain,rfl⟩|⟨v,rfl⟩
  ·have:fr=fr1:=h2.1
   rw[this]at hp
   rcases hm with hm|hm<;>rw[hm]at hp<;>cases hp
  ·have:([]:List Frame)=mid1++ [c0]:=h2.2
   simp at this
  ·have:([]:List Frame)=mid1++ [c0]:=h2.2
   simp at this
 |succ n ih=>
  intro g w hg hw fr1 mid1 w1 hm h
  have hG:=form g hg
  rcases QdL (P':=P') (w:=w) hg with⟨o,w2,es,he⟩|⟨g2,w2,es,he⟩
  ·have hs:step P' (lone g.frame g.callers w)=.ended o w2:=step_lone_ended (by rw[show({frame:=g.frame,callers:=g.callers,status:=.running,dying:=none}:Goroutine)=g from hG.symm,he];rfl)
   simp only[runN,hs]at h
   cases h
  ·obtain⟨hd2,hw2⟩:=Qc7 hw hg he
   have hG2:=form g2 hd2
   have hs:step P' (lone g.frame g.callers w)=.next (lone g2.frame g2.callers w2):=step_lone_go (by
    rw[show({frame:=g.frame,callers:=g.callers,status:=.running,dying:=none}:Goroutine)=g from hG.symm,he]
    show GStep.go g2 w2=_
    rw[hG2]
    rfl)
   simp only[runN,hs]at h
   exact ih g2 w2 hd2 hw2 fr1 mid1 w1 hm h
structure At (T:Tables) (F:Array Func) (S:FuncId→Bool) (X:Nat→Bool) (cs0:List Frame) (Fin:Goroutine→World→Prop) (s0:Goroutine×World) (i:Nat) (fr:Frame) (mid:List Frame) (w w':World):Prop where
 seq:ZH (PP T F) X Fin s0 i=(G fr (mid++cs0),w)
 em:Em X w w'
 tape':w'.tape=YF (PP T F) X Fin s0
 drawn':w'.drawn=ZG (PP T F) X Fin s0 i
 fok:FOk T S X fr
 mode:fr.mode=.run∨fr.mode=.returning
 mok:MOk T S X mid
 xok:XOk X w
 wok:WOk (LOk T S) w'
 kept:Qy X s0.2 w
 tape:w.tape=s0.2.tape
 os:w.os=w'.os
 no:¬Way (PP T F) X Fin (G fr (mid++cs0)) w
theorem Qge (hC:Cut T F F' S){s0:Goroutine×World}{fr1:Frame}{mid1:List Frame}{w1':World}(hret:fr1.mode=.run∨fr1.mode=.returning)
 (hFin:∀w1,FOk T S X fr1→MOk T S X mid1→Em X w1 w1'→XOk X w1→WOk (LOk T S) w1'→Qy X s0.2 w1→w1.tape=s0.2.tape→Fin (G fr1 (mid1++cs0)) w1):
 ∀(n i:Nat) (fr:Frame) (mid:List Frame) (w w':World),At T F S X cs0 Fin s0 i fr mid w w'→runN (PP T F') n (lone fr (mid++ [c0]) w')≠.next (lone fr1 (mid1++ [c0]) w1'):=by
 intro n
 induction n with
 |zero=>
  intro i fr mid w w' h hr
  simp only[runN,lone,Stepped.next.injEq,Machine.mk.injEq]at hr
  obtain⟨rfl,hr2,_⟩:=hr
  simp only[Array.mk.injEq,List.cons.injEq,Goroutine.mk.injEq,and_true]at hr2
  obtain⟨rfl,hr3⟩:=hr2
  have hmid:mid=mid1:=List.append_cancel_right hr3
  subst hmid
  exact h.no (.stop (hFin w h.fok h.mok h.em h.xok h.wok h.kept h.tape))
 |succ n ih=>
  intro i fr mid w w' h hr
  have hd:∀d,Em X (w.at d) w':=fun d=>⟨h.em.heap,h.em.size,h.em.os,h.em.out⟩
  have hx:∀d,XOk X (w.at d):=fun d=>⟨h.xok.lt,h.xok.ob⟩
  have hlost:Jh (PP T F) X Fin (ZH (PP T F) X Fin s0 i)=Jh (PP T F) X Fin (G fr (mid++cs0),w):=by rw[h.seq]
  have hag:JD (w.at (Jh (PP T F) X Fin (G fr (mid++cs0),w))) w' (stepG (PP T F) true (G fr (mid++cs0)) (w.at (Jh (PP T F) X Fin (G fr (mid++cs0),w)))):=by
   intro k hk
   have hof:Of (PP T F) X Fin s0 i (ZG (PP T F) X Fin s0 i+k):=by
    refine⟨Nat.le_add_right _ _,?_⟩
    cases hn:Yz (PP T F) X Fin (ZH (PP T F) X Fin s0 i)with
    |none=>exact .inr rfl
    |some s'=>
     left
     have hg:Up (PP T F) X Fin (ZH (PP T F) X Fin s0 i) s':=by
      unfold Yz at hn
      split at hn
      ·rename_i hx
       have:=Classical.choose_spec hx
       cases hn
       exact this
      ·cases hn
     obtain⟨fr2,cs2,es2,g1,g2,g3⟩:=hg
     rw[h.seq]at g1 g3
     dsimp only at g1
     rw[g2]at g1
     have:=hk fr2 cs2 s'.2 es2 g1
     simp only[World.at]at this
     have hc:ZG (PP T F) X Fin s0 (i+1)=ZG (PP T F) X Fin s0 i+(s'.2.drawn-Jh (PP T F) X Fin (G fr (mid++cs0),w)):=by simp only[ZG,hn,hlost]
     rw[hc]
     omega
   have hsp:=Qgd hof
   rw[h.tape',h.drawn',hsp,hlost]
   show s0.2.tape _=w.tape _
   rw[h.tape]
   simp only[World.at,Nat.add_sub_cancel_left]
  rcases QdO hC h.fok h.mode (hd _) (hx _) h.wok hag with⟨o,w2,es,he⟩|⟨g2,w2',es,he⟩
  ·have hs:step (PP T F') (lone fr (mid++ [c0]) w')=.ended o w2:=step_lone_ended (by
    show(stepG (PP T F') true (G fr (mid++ [c0])) w').bare=_
    rw[he];rfl)
   simp only[runN,hs]at hr
   cases hr
  ·rcases Qgk hC h.fok h.mode h.mok (hd _) (hx _) h.wok hag he with⟨fr2,mid2,w2,es2,e1,e2,e3,e4,e5,e6,e7,e8,e9,e10⟩|⟨hdm,hw⟩
   ·subst e1
    have hs:step (PP T F') (lone fr (mid++ [c0]) w')=.next (lone fr2 (mid2++ [c0]) w2'):=step_lone_go (by
     show(stepG (PP T F') true (G fr (mid++ [c0])) w').bare=_
     rw[he];rfl)
    simp only[runN,hs]at hr
    have hgo:Up (PP T F) X Fin (ZH (PP T F) X Fin s0 i) (G fr2 (mid2++cs0),w2):=by
     refine⟨fr2,mid2++cs0,es2,?_,rfl,?_⟩
     ·rw[h.seq];exact e2
     ·rw[h.seq];exact e9.le
    have hn:=Qe3 hgo
    have hseq:ZH (PP T F) X Fin s0 (i+1)=(G fr2 (mid2++cs0),w2):=by simp only[ZH,hn,Option.getD_some]
    have hc:ZG (PP T F) X Fin s0 (i+1)=ZG (PP T F) X Fin s0 i+(w2.drawn-Jh (PP T F) X Fin (G fr (mid++cs0),w)):=by simp only[ZG,hn,hlost]
    have htw:w2.tape=w.tape:=e9.tp
    have htw':w2'.tape=w'.tape:=e9.tp'
    refine ih (i+1) fr2 mid2 w2 w2' ⟨hseq,e6,htw'.trans h.tape',?_,e3,e4,e5,(hx _).kept e7,e8,(show Qy X s0.2 (w.at (Jh (PP T F) X Fin (G fr (mid++cs0),w)))from⟨h.kept.size,h.kept.ob⟩).trans e7,htw.trans h.tape,e6.os.symm,?_⟩ hr
    ·have h9:=e9.eq
     have h91:=e9.le
     have hdr:=h.drawn'
     simp only[World.at]at h9 h91
     rw[hc]
     omega
    ·exact QeE rfl h.no e2 ⟨e7.size,e10⟩
   ·have hG:g2=G g2.frame g2.callers:=by
     rcases hdm with⟨fr,mid,chain,rfl,_⟩|⟨chain,rfl⟩|⟨v,rfl⟩<;>rfl
    have hs:step (PP T F') (lone fr (mid++ [c0]) w')=.next (lone g2.frame g2.callers w2'):=step_lone_go (by
     show(stepG (PP T F') true (G fr (mid++ [c0])) w').bare=_
     rw[he]
     show GStep.go g2 w2'=_
     rw[hG]
     rfl)
    simp only[runN,hs]at hr
    exact Qc6 n g2 w2' hdm hw fr1 mid1 w1' hret hr
end
end Co
namespace Co
open Go.Conc
open Go.ConcN (sumTo upd sumTo_upd upd_ne upd_same)
def emW (X:Nat→Bool)(w:World):World:={w with heap:=w.heap.mapIdx fun r o=>emO X r o}
theorem Vi (X:Nat→Bool)(w:World)(t:Nat→Question→Nat)(d:Nat):Em X w {emW X w with tape:=t,drawn:=d}:=
 ⟨fun r=>by simp[emW],by simp[emW],rfl,rfl⟩
section
variable {T:Tables} {F F':Array Func} {S:FuncId→Bool} {X:Nat→Bool} {cs0:List Frame} {Fin:Goroutine→World→Prop}
theorem Qbe (hC:Cut T F F' S){fr:Frame}{mid:List Frame}(hf:FOk T S X fr)(hmode:fr.mode=.run∨fr.mode=.returning)(hm:MOk T S X mid){w:World}(hX:XOk X w)(hW:WOk (LOk T S) (emW X w))
 (H:∀t d,∃fr1 mid1 w1',Steps (PP T F') (lone fr (mid++ [c0]) {emW X w with tape:=t,drawn:=d}) (lone fr1 (mid1++ [c0]) w1')∧(fr1.mode=.run∨fr1.mode=.returning)∧
   ∀w1,FOk T S X fr1→MOk T S X mid1→Em X w1 w1'→XOk X w1→WOk (LOk T S) w1'→Qy X w w1→w1.tape=w.tape→Fin (G fr1 (mid1++cs0)) w1):Way (PP T F) X Fin (G fr (mid++cs0)) w:=by
 apply Classical.byContradiction
 intro hno
 obtain⟨fr1,mid1,w1',⟨n,hn⟩,hret,hfin⟩:=H (YF (PP T F) X Fin (G fr (mid++cs0),w)) 0
 refine Qge hC (s0:=(G fr (mid++cs0),w)) hret hfin n 0 fr mid w _ ⟨rfl,Vi X w _ _,rfl,rfl,hf,hmode,hm,hX,?_,Qy.refl X w,rfl,rfl,hno⟩ hn
 exact hW
theorem Qhc {P:Program}{Fin':Goroutine→World→Prop}{g:Goroutine}{w:World}(h:Way P X Fin g w)(k:∀g w,Fin g w→Way P X Fin' g w):Way P X Fin' g w:=by
 induction h with
 |stop h=>exact k _ _ h
 |step hr h1 _ ih=>exact .step hr h1 ih
theorem Qhb {P:Program}{g g1:Goroutine}{w:World}(f:World→World)(hr:g.status=.running)(hs:∀d,∃es,stepG P true g (w.at d)=.go g1 (f (w.at d)) es∧w.heap.size≤(f (w.at d)).heap.size∧∀B,(f (w.at d)).heap.size≤B→∀e∈es,Ev X B e)
 (hk:∀d,Way P X Fin g1 (f (w.at d))):Way P X Fin g w:=
 .step hr (fun d=>by obtain⟨es,h1,h2⟩:=hs d;exact⟨g1,_,es,h1,h2⟩) fun d g' w' es h=>by
   obtain⟨es2,h1,_⟩:=hs d
   rw[h1]at h
   simp only[GStep.go.injEq]at h
   obtain⟨rfl,rfl,_⟩:=h
   exact hk d
theorem Qdr {Shun:Loc→Prop}(hS:∀l,Shun l→∃a,l=.cell a∧X a.block=true){B:Nat}{e:Event}(h:Ev X B e):EvL Shun B e:=by
 obtain⟨loc,wr,sy⟩:=e
 unfold Ev at h
 cases loc with
 |cell a=>
  refine⟨fun x hx hs=>?_,by simp,by simp,h.2⟩
  have:x.loc=.cell a:=by
   simp only[MemAct.ofEvent,MemAct.touch?,Option.some.injEq]at hx
   rw[←hx]
  rw[this]at hs
  obtain⟨b,hb,hX⟩:=hS _ hs
  cases hb
  rw[h.1]at hX
  cases hX
 |obj r=>
  refine⟨fun x hx hs=>?_,by simp,by simp,?_⟩
  ·obtain⟨b,hb,_⟩:=hS _ hs
   exfalso
   cases wr<;>cases sy<;>simp[MemAct.ofEvent,MemAct.touch?]at hx<;>(subst hx;cases hb)
  ·cases wr<;>cases sy<;>exact h
 |mark m=>
  have:m=.noRoom:=h
  subst this
  exact⟨fun x hx _=>by simp[MemAct.ofEvent,MemAct.touch?]at hx,by simp,by simp,trivial⟩
 |_=>exact h.elim
end
end Co
end Go.Proofs.YtcpnkpogebjieaaGreat
