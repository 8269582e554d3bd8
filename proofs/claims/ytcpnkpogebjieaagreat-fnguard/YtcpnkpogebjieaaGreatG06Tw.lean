/- A step of a frame that the cut lets by goes on or ends the run: it starts nothing, and -/
import Derived.Test.YtcpnkpogebjieaaGreatG05Tp
namespace Go.Proofs.YtcpnkpogebjieaaGreat
namespace Co
open Go.Conc
def GE (s:GStep):Prop:=(∃o w es,s=.ended o w es)∨∃g w es,s=.go g w es
section
variable {T:Tables} {F F':Array Func} {S:FuncId→Bool} {X:Nat→Bool} {cs0:List Frame}
theorem Zu (g:Goroutine)(w:World)(es:Array Event):GE (.go g w es):=.inr ⟨g,w,es,rfl⟩
theorem ZR (o:Outcome)(w:World)(es:Array Event):GE (.ended o w es):=.inl ⟨o,w,es,rfl⟩
theorem Qcf {c:Prop}[Decidable c]{x y:GStep}(hx:GE x)(hy:GE y):GE (if c then x else y):=by split<;>assumption
theorem Y6 {es:Array Event}{s:GStep}(h:GE s):GE (GStep.after es s):=by
 rcases h with⟨o,w,es,rfl⟩|⟨g,w,es,rfl⟩
 ·exact ZR _ _ _
 ·exact Zu _ _ _
theorem VW (P:Program)(fr:Frame)(cs:List Frame)(v:Value)(w:World):GE (doReturn P true fr cs none v w):=by
 unfold doReturn
 repeat' split
 all_goals first|exact Zu _ _ _|exact ZR _ _ _|(exfalso;simp_all;done)
theorem U8 (P:Program)(fn:FuncId)(tmps:Array Value)(todo:List Item)(defers:List Deferred)(kind:CallKind)(roundOf:Option Nat)(cs:List Frame)(w:World)(j:Option Code):GE (ZG P fn tmps todo defers kind roundOf cs w j):=by
 unfold ZG
 cases roundOf with
 |none=>
  exact Qcf (Zu _ _ _) (ZR _ _ _)
 |some l=>
  refine Y6 ?_
  split
  ·exact VW _ _ _ _ _
  ·exact ZR _ _ _
theorem KD {s:Sem Next}(hs:Tr (PP T F) (PP T F') (LOk T S) X (NOk (LOk T S) X S) s s){fr:Frame}{cs:List Frame}{mid:List Frame}
 {w w':World}(hE:Em X w w')(hX:XOk X w)(hW:WOk (LOk T S) w')(ht:JI w w' (stepG.apply (PP T F) true fr (mid++cs0) none s w)):GE (stepG.apply (PP T F') true fr cs none s w'):=by
 obtain⟨ok,bad⟩:=hs w w' hE hX hW (fun k hk=>ht k fun fr1 cs1 w1 es h=>Nat.lt_of_lt_of_le hk (VD h))
 unfold stepG.apply
 simp only[if_true,Sem.runT_eq]
 refine Y6 ?_
 cases hr:s.run (PP T F') w' with
 |halt h w2'=>
  obtain⟨hh,_⟩:=bad h w2' hr
  cases h with
  |panic v=>exact Zu _ _ _
  |stuck s=>exact ZR _ _ _
  |unsupported u=>cases u<;>first|exact ZR _ _ _|exact hh.elim
  |_=>exact hh.elim
 |ok n w2'=>
  obtain⟨w2,e1,e2,e3,e4,e5,e6,e7⟩:=ok n w2' hr
  cases n<;>simp only[NOk]at e6<;>first|exact e6.elim|exact Zu _ _ _
theorem QdT (hC:Cut T F F' S){fr:Frame}{mid:List Frame}(hf:FOk T S X fr)(hrun:fr.mode=.run){w w':World}(hE:Em X w w')(hX:XOk X w)(hW:WOk (LOk T S) w')
 (ht:JI w w' (stepG.exec (PP T F) true true fr (mid++cs0) none w)){cs:List Frame}:GE (stepG.exec (PP T F') true true fr cs none w'):=by
 obtain⟨fn,tmps,todo,defers,mode,kind,roundOf⟩:=fr
 dsimp only at hrun
 subst hrun
 have htodo:=hf.todo
 dsimp only at htodo
 cases todo with
 |nil=>
  have e:∀P cs w,stepG.exec P true true ⟨fn,tmps,[],defers,.run,kind,roundOf⟩ cs none w=ZG P fn tmps [] defers kind roundOf cs w none:=by
   intro P cs w
   cases roundOf<;>simp[stepG.exec,ZG,Sem.runT_eq]<;>rfl
  rw[e]
  exact U8 _ _ _ _ _ _ _ _ _ _
 |cons i k=>
  have hi:=htodo i (List.mem_cons_self ..)
  cases i with
  |code c=>
   cases c with
   |skip=>exact Zu _ _ _
   |label l=>exact Zu _ _ _
   |seq a b=>exact Zu _ _ _
   |cond c a b=>
    simp only[stepG.exec]
    split
    ·exact Zu _ _ _
    ·exact ZR _ _ _
   |block id b=>exact Zu _ _ _
   |loop b=>exact Zu _ _ _
   |scope b=>exact Zu _ _ _
   |ret=>
    have e:∀P cs w,stepG.exec P true true ⟨fn,tmps,.code .ret::k,defers,.run,kind,roundOf⟩ cs none w=ZG P fn tmps (.code .ret::k) defers kind roundOf cs w (some .ret):=by
     intro P cs w
     cases roundOf<;>simp[stepG.exec,ZG,Sem.runT_eq]<;>rfl
    rw[e]
    exact U8 _ _ _ _ _ _ _ _ _ _
   |refuse why=>exact ZR _ _ _
   |exit id=>
    cases hx:exitTo id k with
    |some k2=>simp only[stepG.exec,hx,Option.elim];exact Zu _ _ _
    |none=>
     have e:∀P cs w,stepG.exec P true true ⟨fn,tmps,.code (.exit id)::k,defers,.run,kind,roundOf⟩ cs none w=ZG P fn tmps (.code (.exit id)::k) defers kind roundOf cs w (some (.exit id)):=by
      intro P cs w
      cases roundOf<;>simp[stepG.exec,ZG,Sem.runT_eq,hx]<;>rfl
     rw[e]
     exact U8 _ _ _ _ _ _ _ _ _ _
   |goto l=>
    cases hx:gotoIn l k with
    |some k2=>simp only[stepG.exec,hx,Option.elim];exact Zu _ _ _
    |none=>
     have e:∀P cs w,stepG.exec P true true ⟨fn,tmps,.code (.goto l)::k,defers,.run,kind,roundOf⟩ cs none w=ZG P fn tmps (.code (.goto l)::k) defers kind roundOf cs w (some (.goto l)):=by
      intro P cs w
      cases roundOf<;>simp[stepG.exec,ZG,Sem.runT_eq,hx]<;>rfl
     rw[e]
     exact U8 _ _ _ _ _ _ _ _ _ _
   |region id ops draw=>
    simp only[stepG.exec]
    split
    ·exact Zu _ _ _
    ·split
     ·exact Zu _ _ _
     ·exact ZR _ _ _
   |rangeFunc f ps a b=>
    simp only[ZV,QN,Bool.and_eq_true]at hi
    have hen:=QaN (F:=F) (F':=F') (S:=S) (X:=X) fn tmps ps a b roundOf hf.fn hi.1 hi.2 hf.round
    have e:∀P cs w,stepG.exec P true true ⟨fn,tmps,.code (.rangeFunc f ps a b)::k,defers,.run,kind,roundOf⟩ cs none w=
     GStep.after (seen P fn ((Instr.enterLoop fn tmps ps a b roundOf).events P w #[])) (match(Instr.enterLoop fn tmps ps a b roundOf).run P w with
     | .ok lm w=>stepG.apply P true ⟨fn,tmps,.inRangeFunc lm.1::k,lm.2++defers,.run,kind,roundOf⟩ cs none (Deferred.ofValue (Frame.eval ⟨fn,tmps,.inRangeFunc lm.1::k,lm.2++defers,.run,kind,roundOf⟩ f) #[.func (.yield lm.1) #[] #[]]>>= fun d=>invoke d.target d.args) w
     | .halt _ w=>.ended (.stuck "range over a function: no such loop" (Frame.pos P ⟨fn,tmps,.code (.rangeFunc f ps a b)::k,defers,.run,kind,roundOf⟩)) w):=by
     intro P cs w
     simp only[stepG.exec,Sem.runT_eq]
     generalize (Instr.enterLoop fn tmps ps a b roundOf).run P w=r
     cases r with
     |ok lm w=>
      obtain⟨l,m⟩:=lm
      simp only[resolve,List.map_toArray,List.map_cons,List.map_nil]
      rfl
     |halt h w=>rfl
    rw[e]at ht⊢
    obtain⟨ok,_⟩:=hen w w' hE hX hW (fun k hk=>ht k fun fr1 cs1 w1 es h=>by
     obtain⟨_,h,_⟩:=ZX h
     cases hr:(Instr.enterLoop fn tmps ps a b roundOf).run (PP T F) w with
     |halt x y=>rw[hr]at h;cases h
     |ok lm w2=>
      rw[hr]at h hk
      exact Nat.lt_of_lt_of_le hk (Nat.le_trans (JU _ _ _).1 (VD h)))
    refine Y6 ?_
    cases hr:(Instr.enterLoop fn tmps ps a b roundOf).run (PP T F') w' with
    |halt x y=>exact ZR _ _ _
    |ok lm w2'=>
     obtain⟨w2,e1,e2,e3,e4,e5,e6,e7⟩:=ok lm w2' hr
     have hmono:=(JU (PP T F) (Instr.enterLoop fn tmps ps a b roundOf) w)
     have hmono':=(JU (PP T F') (Instr.enterLoop fn tmps ps a b roundOf) w')
     rw[e1]at hmono
     rw[hr]at hmono'
     simp only[rw]at hmono hmono'
     rw[e1]at ht
     dsimp only at ht⊢
     have hag:JI w2 w2' (stepG.apply (PP T F) true ⟨fn,tmps,.inRangeFunc lm.1::k,lm.2++defers,.run,kind,roundOf⟩ (mid++cs0) none (Deferred.ofValue (Frame.eval ⟨fn,tmps,.inRangeFunc lm.1::k,lm.2++defers,.run,kind,roundOf⟩ f) #[.func (.yield lm.1) #[] #[]]>>= fun d=>invoke d.target d.args) w2):=by
      intro j hj
      have:=ht (w2.drawn-w.drawn+j) (fun fr1 cs1 w1 es h=>by
       obtain⟨_,h,_⟩:=ZX h
       have:=hj _ _ _ _ h
       omega)
      have e52:=e5.eq
      rw[hmono.2,hmono'.2,show w2'.drawn+j=w'.drawn+(w2.drawn-w.drawn+j)by omega,this]
      congr 1
      omega
     exact KD (VV hC.of _ _).tr e2 (hX.kept e3) e4 hag
  |inBlock id=>exact Zu _ _ _
  |inScope b=>exact Zu _ _ _
  |inLoop b=>exact Zu _ _ _
  |inRegion ops todo=>
   cases todo with
   |nil=>exact Zu _ _ _
   |cons i rest=>
    have e:∀P cs w,stepG.exec P true true ⟨fn,tmps,.inRegion ops (i::rest)::k,defers,.run,kind,roundOf⟩ cs none w=
     if((ops[i]?).map (Region.wanted · (yielded ops tmps))).getD false then stepG.oper P true ⟨fn,tmps,.inRegion ops (i::rest)::k,defers,.run,kind,roundOf⟩ cs none w
     else .go {frame:=Frame.finish ⟨fn,tmps,.inRegion ops (i::rest)::k,defers,.run,kind,roundOf⟩ undef,callers:=cs,status:=.running,dying:=none} w:=by
     intro P cs w
     simp[stepG.exec]
    rw[e]at ht⊢
    cases hw:((ops[i]?).map (Region.wanted · (yielded ops tmps))).getD false with
    |false=>simp only[Bool.false_eq_true,if_false];exact Zu _ _ _
    |true=>
     simp only[hw,if_true]at ht⊢
     cases ho:ops[i]? with
     |none=>rw[ho]at hw;cases hw
     |some o=>
      have hok:Un T o.op=true:=by
       have:=Array.all_eq_true'.1 hi o (Array.mem_of_getElem? ho)
       exact this
      have e2:∀P cs w,stepG.oper P true ⟨fn,tmps,.inRegion ops (i::rest)::k,defers,.run,kind,roundOf⟩ cs none w=stepG.apply P true ⟨fn,tmps,.inRegion ops (i::rest)::k,defers,.run,kind,roundOf⟩ cs none (execOp (Frame.eval ⟨fn,tmps,.inRegion ops (i::rest)::k,defers,.run,kind,roundOf⟩) o) w:=by
       intro P cs w
       unfold stepG.oper
       simp only[Frame.oper?,ho]
       split
       ·rename_i h;rw[h]at hok;cases hok
       ·rfl
      rw[e2]at ht⊢
      exact KD (PU hC.of _ o hok).tr hE hX hW ht
  |inRangeFunc l=>exact ZR _ _ _
  |endRangeFunc l=>
   simp only[stepG.exec,Sem.runT_eq]
   refine Y6 ?_
   split
   ·exact Zu _ _ _
   ·exact Zu _ _ _
   ·exact ZR _ _ _
  |beginRound=>
   simp only[stepG.exec]at ht⊢
   refine KD ?_ hE hX hW ht
   refine(K3 ?_).tr
   cases roundOf with
   |none=>exact Qf _
   |some l=>exact PS l (hf.round l rfl)
  |call _ _ _ _=>exact hi.elim
  |extern _ _=>exact hi.elim
theorem Qa4 {P:Program}{fr:Frame}(hd:∀d∈fr.defers,Y4 X d){cs:List Frame}(hcs:cs≠[]){w:World}:GE (unwind P true fr cs none w):=by
 unfold unwind
 split
 ·rw[Sem.runT_eq]
  refine Y6 ?_
  split
  ·exact Zu _ _ _
  ·exact ZR _ _ _
 ·rename_i d ds hn hds
  obtain⟨r,hr,_⟩:=hd d (by rw[hds];exact List.mem_cons_self ..)
  exact absurd hr (by
   intro h
   exact hn r d.args (by cases d;simp_all))
 ·split
  ·exact ZR _ _ _
  ·split
   ·exact ZR _ _ _
   ·cases cs with
    |nil=>exact absurd rfl hcs
    |cons c cs=>exact Zu _ _ _
  ·split
   ·exact VW _ _ _ _ _
   ·rw[Sem.runT_eq]
    refine Y6 ?_
    split
    ·exact VW _ _ _ _ _
    ·exact ZR _ _ _
    ·exact ZR _ _ _
theorem QcV (hC:Cut T F F' S){fr:Frame}{mid:List Frame}(hf:FOk T S X fr)(hmode:fr.mode=.run∨fr.mode=.returning){w w':World}(hE:Em X w w')(hX:XOk X w)(hW:WOk (LOk T S) w')
 (ht:JI w w' (stepG (PP T F) true (G fr (mid++cs0)) w)):GE (stepG (PP T F') true (G fr (mid++ [c0])) w'):=by
 rcases hmode with hmode|hmode
 ·have e:∀P cs w,stepG P true (G fr cs) w=stepG.exec P true true fr cs none w:=by intro P cs w;simp[stepG,G,hmode]
  rw[e]at ht⊢
  exact QdT hC hf hmode hE hX hW ht
 ·have e:∀P cs w,stepG P true (G fr cs) w=unwind P true fr cs none w:=by intro P cs w;simp[stepG,G,hmode]
  rw[e]
  exact Qa4 hf.defers (by simp)
theorem QdI {P':Program}{g:Goroutine}{w:World}(hg:YR T S X g):GE (stepG P' true g w):=by
 rcases hg with⟨fr,mid,chain,rfl,hm,hd,hmid⟩|⟨chain,rfl⟩|⟨v,rfl⟩
 ·have e:stepG P' true (G fr (mid++ [c0])) w=unwind P' true fr (mid++ [c0]) none w:=by simp[stepG,G,hm]
  rw[e]
  exact Qa4 hd (by simp)
 ·have:stepG P' true (G (c0.raise chain) []) w=.ended (.unsupported (.noEntry "machine/Return: a deferred call of a nil function value, made while the frame is unwinding") (({c0.raise chain with defers:=[]}:Frame).pos P')) w:=by
   simp[stepG,G,c0,Frame.raise,unwind,callDeferred]
  rw[this]
  exact ZR _ _ _
 ·have:∃o,stepG P' true (G (c0.finish v) []) w=.ended o w:=by
   simp[stepG,G,c0,Frame.finish,stepG.exec]
  obtain⟨o,ho⟩:=this
  rw[ho]
  exact ZR _ _ _
end
end Co
namespace Co
open Go.Conc
inductive Way (P:Program) (X:Nat→Bool) (Fin:Goroutine→World→Prop):Goroutine→World→Prop
 |stop {g:Goroutine} {w:World}:Fin g w→Way P X Fin g w
 |step {g:Goroutine} {w:World}:g.status=.running→(∀d,∃g' w' es,stepG P true g (w.at d)=.go g' w' es∧w.heap.size≤w'.heap.size∧∀B,w'.heap.size≤B→∀e∈es,Ev X B e)→(∀d g' w' es,stepG P true g (w.at d)=.go g' w' es→Way P X Fin g' w')→Way P X Fin g w
section
variable (P:Program) (X:Nat→Bool) (Fin:Goroutine→World→Prop)
open Classical in
noncomputable def Jg (s:Goroutine×World):Nat:=
 if h:∃d,∀g' w' es,stepG P true s.1 (s.2.at d)=.go g' w' es→(s.2.heap.size≤w'.heap.size∧∀B,w'.heap.size≤B→∀e∈es,Ev X B e)→¬Way P X Fin g' w' then Classical.choose h else 0
def UP (s s':Goroutine×World):Prop:=∃fr cs es,stepG P true s.1 (s.2.at (Jg P X Fin s))=.go s'.1 s'.2 es∧s'.1=G fr cs∧Jg P X Fin s≤s'.2.drawn
open Classical in
noncomputable def YF (s:Goroutine×World):Option (Goroutine×World):=if h:∃s',UP P X Fin s s' then some (Classical.choose h)else none
noncomputable def ZE (s0:Goroutine×World):Nat→Goroutine×World
 |0=>s0
 |i+1=>(YF P X Fin (ZE s0 i)).getD (ZE s0 i)
noncomputable def ZB (s0:Goroutine×World):Nat→Nat
 |0=>0
 |i+1=>ZB s0 i+match YF P X Fin (ZE P X Fin s0 i)with
  |some s'=>s'.2.drawn-Jg P X Fin (ZE P X Fin s0 i)
  |none=>0
def Of (s0:Goroutine×World)(i j:Nat):Prop:=ZB P X Fin s0 i≤j∧(j<ZB P X Fin s0 (i+1)∨YF P X Fin (ZE P X Fin s0 i)=none)
open Classical in
noncomputable def YB (s0:Goroutine×World)(j:Nat):Question→Nat:=
 if h:∃i,Of P X Fin s0 i j then s0.2.tape (Jg P X Fin (ZE P X Fin s0 (Classical.choose h))+(j-ZB P X Fin s0 (Classical.choose h)))else fun _=>0
variable {P X Fin}
theorem Qem {s s':Goroutine×World}(h:UP P X Fin s s'):YF P X Fin s=some s':=by
 have hx:∃s',UP P X Fin s s':=⟨s',h⟩
 have hc:=Classical.choose_spec hx
 unfold YF
 rw[dif_pos hx]
 obtain⟨fr,cs,es,h1,_,_⟩:=h
 obtain⟨fr2,cs2,es2,h2,_,_⟩:=hc
 rw[h1]at h2
 simp only[GStep.go.injEq]at h2
 obtain⟨e1,e2,_⟩:=h2
 exact congrArg some (Prod.ext e1.symm e2.symm)
theorem QbC (s0:Goroutine×World){i j:Nat}(h:i≤j):ZB P X Fin s0 i≤ZB P X Fin s0 j:=by
 induction h with
 |refl=>exact Nat.le_refl _
 |step _ ih=>exact Nat.le_trans ih (Nat.le_add_right _ _)
theorem QdP (s0:Goroutine×World){i:Nat}(hn:YF P X Fin (ZE P X Fin s0 i)=none){j:Nat}(h:i≤j):ZE P X Fin s0 j=ZE P X Fin s0 i∧ZB P X Fin s0 j=ZB P X Fin s0 i:=by
 induction h with
 |refl=>exact⟨rfl,rfl⟩
 |step _ ih=>
  obtain⟨h1,h2⟩:=ih
  simp only[ZE,ZB,h1,h2,hn]
  exact⟨rfl,rfl⟩
theorem P6 {s0:Goroutine×World}{i i' j:Nat}(h:Of P X Fin s0 i j)(h':Of P X Fin s0 i' j)(hlt:i<i'):ZE P X Fin s0 i'=ZE P X Fin s0 i∧ZB P X Fin s0 i'=ZB P X Fin s0 i:=by
 have hm:=QbC (P:=P) (X:=X) (Fin:=Fin) s0 (show i+1≤i' from hlt)
 rcases h.2 with h2|h2
 ·have:=h'.1
  omega
 ·exact QdP s0 h2 (Nat.le_of_lt hlt)
theorem Qgc {s0:Goroutine×World}{i j:Nat}(h:Of P X Fin s0 i j):YB P X Fin s0 j=s0.2.tape (Jg P X Fin (ZE P X Fin s0 i)+(j-ZB P X Fin s0 i)):=by
 have hx:∃i,Of P X Fin s0 i j:=⟨i,h⟩
 unfold YB
 rw[dif_pos hx]
 have hc:=Classical.choose_spec hx
 have:ZE P X Fin s0 (Classical.choose hx)=ZE P X Fin s0 i∧ZB P X Fin s0 (Classical.choose hx)=ZB P X Fin s0 i:=by
  rcases Nat.lt_trichotomy (Classical.choose hx) i with hl|he|hl
  ·obtain⟨e1,e2⟩:=P6 hc h hl
   exact⟨e1.symm,e2.symm⟩
  ·rw[he];exact⟨rfl,rfl⟩
  ·exact P6 h hc hl
 rw[this.1,this.2]
theorem QfV {g:Goroutine}{w:World}(hr:g.status=.running)(h:¬Way P X Fin g w){g':Goroutine}{w':World}{es:Array Event}(hs:stepG P true g (w.at (Jg P X Fin (g,w)))=.go g' w' es)
 (he:w.heap.size≤w'.heap.size∧∀B,w'.heap.size≤B→∀e∈es,Ev X B e):¬Way P X Fin g' w':=by
 have hx:∃d,∀g' w' es,stepG P true g (w.at d)=.go g' w' es→(w.heap.size≤w'.heap.size∧∀B,w'.heap.size≤B→∀e∈es,Ev X B e)→¬Way P X Fin g' w':=by
  apply Classical.byContradiction
  intro hn
  have key:∀d,∃g' w' es,stepG P true g (w.at d)=.go g' w' es∧(w.heap.size≤w'.heap.size∧∀B,w'.heap.size≤B→∀e∈es,Ev X B e)∧Way P X Fin g' w':=by
   intro d
   apply Classical.byContradiction
   intro hd
   exact hn ⟨d,fun g' w' es h1 h2 h3=>hd ⟨g',w',es,h1,h2,h3⟩⟩
  refine h (.step hr (fun d=>?_) fun d g' w' es hs=>?_)
  ·obtain⟨g',w',es,h1,h2,_⟩:=key d
   exact⟨g',w',es,h1,h2⟩
  ·obtain⟨g2,w2,es2,h1,_,h3⟩:=key d
   rw[h1]at hs
   simp only[GStep.go.injEq]at hs
   obtain⟨rfl,rfl,_⟩:=hs
   exact h3
 have e:Jg P X Fin (g,w)=Classical.choose hx:=by
  unfold Jg
  exact dif_pos hx
 rw[e]at hs
 exact Classical.choose_spec hx g' w' es hs he
end
section
variable {T:Tables} {F F':Array Func} {S:FuncId→Bool} {X:Nat→Bool} {cs0:List Frame} {Fin:Goroutine→World→Prop}
theorem QgA {P':Program}:∀(n:Nat) (g:Goroutine) (w:World),YR T S X g→WOk (LOk T S) w→∀fr1 mid1 w1,(fr1.mode=.run∨fr1.mode=.returning)→runN P' n (lone g.frame g.callers w)≠.next (lone fr1 (mid1++ [c0]) w1):=by
 intro n
 have form:∀g,YR T S X g→g=G g.frame g.callers:=by
  rintro g (⟨fr,mid,chain,rfl,_⟩|⟨chain,rfl⟩|⟨v,rfl⟩)<;>rfl
 induction n with
 |zero=>
  intro g w hg _ fr1 mid1 w1 hm h
  simp only[runN,lone,Stepped.next.injEq,Machine.mk.injEq]at h
  have h2:=h.2.1
  simp only[Array.mk.injEq,List.cons.injEq,Goroutine.mk.injEq,and_true]at h2
  rcases hg with⟨fr,mid,chain,rfl,hp,_⟩|⟨chain,rfl⟩|⟨v,rfl⟩
  ·have:fr=fr1:=h2.1
   rw[this]at hp
   rcases hm with hm|hm<;>rw[hm]at hp<;>cases hp
  ·have:([]:List Frame)=mid1++ [c0]:=h2.2
   simp at this
  ·have:([]:List Frame)=mid1++ [c0]:=h2.2
   simp at this
 |succ n ih=>
  intro g w hg hw fr1 mid1 w1 hm h
  have hG:=form g hg
  rcases QdI (P':=P') (w:=w) hg with⟨o,w2,es,he⟩|⟨g2,w2,es,he⟩
  ·have hs:step P' (lone g.frame g.callers w)=.ended o w2:=step_lone_ended (by rw[show({frame:=g.frame,callers:=g.callers,status:=.running,dying:=none}:Goroutine)=g from hG.symm,he];rfl)
   simp only[runN,hs]at h
   cases h
  ·obtain⟨hd2,hw2⟩:=Qhb hw hg he
   have hG2:=form g2 hd2
   have hs:step P' (lone g.frame g.callers w)=.next (lone g2.frame g2.callers w2):=step_lone_go (by
    rw[show({frame:=g.frame,callers:=g.callers,status:=.running,dying:=none}:Goroutine)=g from hG.symm,he]
    show GStep.go g2 w2=_
    rw[hG2]
    rfl)
   simp only[runN,hs]at h
   exact ih g2 w2 hd2 hw2 fr1 mid1 w1 hm h
structure At (T:Tables) (F:Array Func) (S:FuncId→Bool) (X:Nat→Bool) (cs0:List Frame) (Fin:Goroutine→World→Prop) (s0:Goroutine×World) (i:Nat) (fr:Frame) (mid:List Frame) (w w':World):Prop where
 seq:ZE (PP T F) X Fin s0 i=(G fr (mid++cs0),w)
 em:Em X w w'
 tape':w'.tape=YB (PP T F) X Fin s0
 drawn':w'.drawn=ZB (PP T F) X Fin s0 i
 fok:FOk T S X fr
 mode:fr.mode=.run∨fr.mode=.returning
 mok:MOk T S X mid
 xok:XOk X w
 wok:WOk (LOk T S) w'
 kept:Qy X s0.2 w
 tape:w.tape=s0.2.tape
 os:w.os=w'.os
 no:¬Way (PP T F) X Fin (G fr (mid++cs0)) w
theorem Qd0 (hC:Cut T F F' S){s0:Goroutine×World}{fr1:Frame}{mid1:List Frame}{w1':World}(hret:fr1.mode=.run∨fr1.mode=.returning)
 (hFin:∀w1,FOk T S X fr1→MOk T S X mid1→Em X w1 w1'→XOk X w1→WOk (LOk T S) w1'→Qy X s0.2 w1→w1.tape=s0.2.tape→Fin (G fr1 (mid1++cs0)) w1):
 ∀(n i:Nat) (fr:Frame) (mid:List Frame) (w w':World),At T F S X cs0 Fin s0 i fr mid w w'→runN (PP T F') n (lone fr (mid++ [c0]) w')≠.next (lone fr1 (mid1++ [c0]) w1'):=by
 intro n
 induction n with
 |zero=>
  intro i fr mid w w' h hr
  simp only[runN,lone,Stepped.next.injEq,Machine.mk.injEq]at hr
  obtain⟨rfl,hr2,_⟩:=hr
  simp only[Array.mk.injEq,List.cons.injEq,Goroutine.mk.injEq,and_true]at hr2
  obtain⟨rfl,hr3⟩:=hr2
  have hmid:mid=mid1:=List.append_cancel_right hr3
  subst hmid
  exact h.no (.stop (hFin w h.fok h.mok h.em h.xok h.wok h.kept h.tape))
 |succ n ih=>
  intro i fr mid w w' h hr
  have hd:∀d,Em X (w.at d) w':=fun d=>⟨h.em.heap,h.em.size,h.em.os,h.em.out⟩
  have hx:∀d,XOk X (w.at d):=fun d=>⟨h.xok.lt,h.xok.ob⟩
  have hlost:Jg (PP T F) X Fin (ZE (PP T F) X Fin s0 i)=Jg (PP T F) X Fin (G fr (mid++cs0),w):=by rw[h.seq]
  have hag:JI (w.at (Jg (PP T F) X Fin (G fr (mid++cs0),w))) w' (stepG (PP T F) true (G fr (mid++cs0)) (w.at (Jg (PP T F) X Fin (G fr (mid++cs0),w)))):=by
   intro k hk
   have hof:Of (PP T F) X Fin s0 i (ZB (PP T F) X Fin s0 i+k):=by
    refine⟨Nat.le_add_right _ _,?_⟩
    cases hn:YF (PP T F) X Fin (ZE (PP T F) X Fin s0 i)with
    |none=>exact .inr rfl
    |some s'=>
     left
     have hg:UP (PP T F) X Fin (ZE (PP T F) X Fin s0 i) s':=by
      unfold YF at hn
      split at hn
      ·rename_i hx
       have:=Classical.choose_spec hx
       cases hn
       exact this
      ·cases hn
     obtain⟨fr2,cs2,es2,g1,g2,g3⟩:=hg
     rw[h.seq]at g1 g3
     dsimp only at g1
     rw[g2]at g1
     have:=hk fr2 cs2 s'.2 es2 g1
     simp only[World.at]at this
     have hc:ZB (PP T F) X Fin s0 (i+1)=ZB (PP T F) X Fin s0 i+(s'.2.drawn-Jg (PP T F) X Fin (G fr (mid++cs0),w)):=by simp only[ZB,hn,hlost]
     rw[hc]
     omega
   have hsp:=Qgc hof
   rw[h.tape',h.drawn',hsp,hlost]
   show s0.2.tape _=w.tape _
   rw[h.tape]
   simp only[World.at,Nat.add_sub_cancel_left]
  rcases QcV hC h.fok h.mode (hd _) (hx _) h.wok hag with⟨o,w2,es,he⟩|⟨g2,w2',es,he⟩
  ·have hs:step (PP T F') (lone fr (mid++ [c0]) w')=.ended o w2:=step_lone_ended (by
    show(stepG (PP T F') true (G fr (mid++ [c0])) w').bare=_
    rw[he];rfl)
   simp only[runN,hs]at hr
   cases hr
  ·rcases Qf3 hC h.fok h.mode h.mok (hd _) (hx _) h.wok hag he with⟨fr2,mid2,w2,es2,e1,e2,e3,e4,e5,e6,e7,e8,e9,e10⟩|⟨hdm,hw⟩
   ·subst e1
    have hs:step (PP T F') (lone fr (mid++ [c0]) w')=.next (lone fr2 (mid2++ [c0]) w2'):=step_lone_go (by
     show(stepG (PP T F') true (G fr (mid++ [c0])) w').bare=_
     rw[he];rfl)
    simp only[runN,hs]at hr
    have hgo:UP (PP T F) X Fin (ZE (PP T F) X Fin s0 i) (G fr2 (mid2++cs0),w2):=by
     refine⟨fr2,mid2++cs0,es2,?_,rfl,?_⟩
     ·rw[h.seq];exact e2
     ·rw[h.seq];exact e9.le
    have hn:=Qem hgo
    have hseq:ZE (PP T F) X Fin s0 (i+1)=(G fr2 (mid2++cs0),w2):=by simp only[ZE,hn,Option.getD_some]
    have hc:ZB (PP T F) X Fin s0 (i+1)=ZB (PP T F) X Fin s0 i+(w2.drawn-Jg (PP T F) X Fin (G fr (mid++cs0),w)):=by simp only[ZB,hn,hlost]
    have htw:w2.tape=w.tape:=e9.tp
    have htw':w2'.tape=w'.tape:=e9.tp'
    refine ih (i+1) fr2 mid2 w2 w2' ⟨hseq,e6,htw'.trans h.tape',?_,e3,e4,e5,(hx _).kept e7,e8,(show Qy X s0.2 (w.at (Jg (PP T F) X Fin (G fr (mid++cs0),w)))from⟨h.kept.size,h.kept.ob⟩).trans e7,htw.trans h.tape,e6.os.symm,?_⟩ hr
    ·have h9:=e9.eq
     have h91:=e9.le
     have hdr:=h.drawn'
     simp only[World.at]at h9 h91
     rw[hc]
     omega
    ·exact QfV rfl h.no e2 ⟨e7.size,e10⟩
   ·have hG:g2=G g2.frame g2.callers:=by
     rcases hdm with⟨fr,mid,chain,rfl,_⟩|⟨chain,rfl⟩|⟨v,rfl⟩<;>rfl
    have hs:step (PP T F') (lone fr (mid++ [c0]) w')=.next (lone g2.frame g2.callers w2'):=step_lone_go (by
     show(stepG (PP T F') true (G fr (mid++ [c0])) w').bare=_
     rw[he]
     show GStep.go g2 w2'=_
     rw[hG]
     rfl)
    simp only[runN,hs]at hr
    exact QgA n g2 w2' hdm hw fr1 mid1 w1' hret hr
end
end Co
namespace Co
open Go.Conc
open Go.ConcN (sumTo upd sumTo_upd upd_ne upd_same)
def emW (X:Nat→Bool)(w:World):World:={w with heap:=w.heap.mapIdx fun r o=>emO X r o}
theorem VB (X:Nat→Bool)(w:World)(t:Nat→Question→Nat)(d:Nat):Em X w {emW X w with tape:=t,drawn:=d}:=
 ⟨fun r=>by simp[emW],by simp[emW],rfl,rfl⟩
section
variable {T:Tables} {F F':Array Func} {S:FuncId→Bool} {X:Nat→Bool} {cs0:List Frame} {Fin:Goroutine→World→Prop}
theorem Oj (hC:Cut T F F' S){fr:Frame}{mid:List Frame}(hf:FOk T S X fr)(hmode:fr.mode=.run∨fr.mode=.returning)(hm:MOk T S X mid){w:World}(hX:XOk X w)(hW:WOk (LOk T S) (emW X w))
 (H:∀t d,∃fr1 mid1 w1',Steps (PP T F') (lone fr (mid++ [c0]) {emW X w with tape:=t,drawn:=d}) (lone fr1 (mid1++ [c0]) w1')∧(fr1.mode=.run∨fr1.mode=.returning)∧
   ∀w1,FOk T S X fr1→MOk T S X mid1→Em X w1 w1'→XOk X w1→WOk (LOk T S) w1'→Qy X w w1→w1.tape=w.tape→Fin (G fr1 (mid1++cs0)) w1):Way (PP T F) X Fin (G fr (mid++cs0)) w:=by
 apply Classical.byContradiction
 intro hno
 obtain⟨fr1,mid1,w1',⟨n,hn⟩,hret,hfin⟩:=H (YB (PP T F) X Fin (G fr (mid++cs0),w)) 0
 refine Qd0 hC (s0:=(G fr (mid++cs0),w)) hret hfin n 0 fr mid w _ ⟨rfl,VB X w _ _,rfl,rfl,hf,hmode,hm,hX,?_,Qy.refl X w,rfl,rfl,hno⟩ hn
 exact hW
theorem Qhm {P:Program}{Fin':Goroutine→World→Prop}{g:Goroutine}{w:World}(h:Way P X Fin g w)(k:∀g w,Fin g w→Way P X Fin' g w):Way P X Fin' g w:=by
 induction h with
 |stop h=>exact k _ _ h
 |step hr h1 _ ih=>exact .step hr h1 ih
theorem QcM {P:Program}{g g1:Goroutine}{w:World}(f:World→World)(hr:g.status=.running)(hs:∀d,∃es,stepG P true g (w.at d)=.go g1 (f (w.at d)) es∧w.heap.size≤(f (w.at d)).heap.size∧∀B,(f (w.at d)).heap.size≤B→∀e∈es,Ev X B e)
 (hk:∀d,Way P X Fin g1 (f (w.at d))):Way P X Fin g w:=
 .step hr (fun d=>by obtain⟨es,h1,h2⟩:=hs d;exact⟨g1,_,es,h1,h2⟩) fun d g' w' es h=>by
   obtain⟨es2,h1,_⟩:=hs d
   rw[h1]at h
   simp only[GStep.go.injEq]at h
   obtain⟨rfl,rfl,_⟩:=h
   exact hk d
theorem QfR {Shun:Loc→Prop}(hS:∀l,Shun l→∃a,l=.cell a∧X a.block=true){B:Nat}{e:Event}(h:Ev X B e):EvL Shun B e:=by
 obtain⟨loc,wr,sy⟩:=e
 unfold Ev at h
 cases loc with
 |cell a=>
  refine⟨fun x hx hs=>?_,by simp,by simp,h.2⟩
  have:x.loc=.cell a:=by
   simp only[MemAct.ofEvent,MemAct.touch?,Option.some.injEq]at hx
   rw[←hx]
  rw[this]at hs
  obtain⟨b,hb,hX⟩:=hS _ hs
  cases hb
  rw[h.1]at hX
  cases hX
 |obj r=>
  refine⟨fun x hx hs=>?_,by simp,by simp,?_⟩
  ·obtain⟨b,hb,_⟩:=hS _ hs
   exfalso
   cases wr<;>cases sy<;>simp[MemAct.ofEvent,MemAct.touch?]at hx<;>(subst hx;cases hb)
  ·cases wr<;>cases sy<;>exact h
 |mark m=>
  have:m=.noRoom:=h
  subst this
  exact⟨fun x hx _=>by simp[MemAct.ofEvent,MemAct.touch?]at hx,by simp,by simp,trivial⟩
 |_=>exact h.elim
end
end Co
end Go.Proofs.YtcpnkpogebjieaaGreat
