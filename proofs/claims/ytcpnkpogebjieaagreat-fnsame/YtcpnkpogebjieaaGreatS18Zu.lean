/- A call, in company: from the contract of a run alone, under the cut table and in the -/
import Derived.Test.YtcpnkpogebjieaaGreatS06Zs
import Derived.Test.YtcpnkpogebjieaaGreatS09ToH
import Derived.Conc.WgGenN2
import Derived.Conc.WgWords
set_option maxRecDepth 100000
set_option maxHeartbeats 2000000
namespace Go.Proofs.YtcpnkpogebjieaaGreat
namespace Co
open Go.Conc
def Rds {α:Type}(s:Sem α):Prop:=∀P w,rw (s.run P w)=w
section
variable {α β:Type}
theorem JS (a:α):Rds (pure a:Sem α):=fun _ _=>rfl
theorem VR (h:Halt):Rds (.halt h:Sem α):=fun _ _=>rfl
theorem Jw {s:Sem α}{f:α→Sem β}(hs:Rds s)(hf:∀a,Rds (f a)):Rds (s>>= f):=by
 intro P w;rw[Sem.run_bind];have h:=hs P w
 cases h0:s.run P w with
 |halt x y=>rw[h0]at h;exact h
 |ok a w2=>
  rw[h0]at h;have e:w2=w:=h;subst e;exact hf a P w2
theorem Px:Rds program:=fun _ _=>rfl
theorem QaJ (a:Addr)(m:Mode):Rds (load a m):=by
 intro P w;simp only[load,Sem.run];split
 ·rfl
 ·split<;>rfl
theorem Qgc (t:TypeId):Rds (typeInfo t):=by
 unfold typeInfo;refine Jw Px fun p=>?_;split
 ·exact JS _
 ·exact VR _
theorem Qgd (t:TypeId):Rds (underlying t):=by
 unfold underlying;refine Jw Px fun p=>?_;split
 ·exact JS _
 ·exact VR _
theorem Qf9 (a:Addr)(n:Nat):∀(i:Nat) (acc:Array Value),Rds (loadCellsFrom a i n acc):=by
 induction n with
 |zero=>intro i acc;exact JS _
 |succ n ih=>intro i acc;exact Jw (QaJ _ _) fun v=>ih _ _
theorem Qga (t:TypeId)(a:Addr):Rds (loadVar t a):=by
 unfold loadVar isAgg;refine Jw (Jw (Qgd _) fun u=>?_) fun b=>?_
 ·split<;>exact JS _
 ·split
  ·exact Jw (Jw (Qgc _) fun _=>JS _) fun _=>Jw (Qf9 _ _ _ _) fun _=>JS _
  ·exact QaJ _ _
theorem Qf8 (v:Value):Rds (asAddr v):=by
 unfold asAddr;split
 ·exact JS _
 ·unfold runtimePanic;exact Jw Px fun p=>VR _
 ·exact VR _
theorem Qgb {γ δ:Type}(f:γ→Sem δ)(hf:∀x,Rds (f x))(l:Array γ):Rds (l.mapM f):=by
 rw[Array.mapM_eq_mapM_toList];show Rds (_>>= fun a=>pure (List.toArray a));refine Jw ?_ fun _=>JS _;generalize l.toList=k
 induction k with
 |nil=>exact JS _
 |cons x l ih=>
  rw[List.mapM_cons];exact Jw (hf x) fun _=>Jw ih fun _=>JS _
theorem QaK (fn:Func)(tmps:Array Value):Rds (results fn tmps):=by
 unfold results;refine Jw (Qgb _ (fun x=>?_) _) fun _=>JS _
 cases x with
 |tmp t=>exact JS _
 |cell a t=>exact Jw (Qf8 _) fun _=>Qga _ _
end
section
variable {T:Tables} {F F':Array Func} {S:FuncId→Bool} {X:Nat→Bool} {c:Frame} {cs:List Frame}
theorem QbL (hC:Cut T F F' S){f:FuncId}{args:Array Value}(hS:S f=true){w:World}(hX:XOk X w)(hW:WOk (LOk T S) (emW X w)){R:Value→World→Prop}
 (H:∀t d,Calls (PP T F') f args {emW X w with tape:=t,drawn:=d} fun e w1=>∃v,e=.returned v∧R v w1):
 Way (PP T F) X (fun g w1=>∃v w1',g=G (c.finish v) cs∧Em X w1 w1'∧XOk X w1∧WOk (LOk T S) w1'∧QB X w w1∧w1.tape=w.tape∧R v w1') (G (Frame.enter (PP T F) f args .normal) (c::cs)) w:=by
 obtain⟨hf,he⟩:=OT (X:=X) (args:=args) hC hS
 have h1:Way (PP T F) X (fun g w1=>∃fr1 v w1',g=G fr1 (c::cs)∧FOk T S X fr1∧fr1.leaving (PP T F') w1' (.returned v)∧Em X w1 w1'∧XOk X w1∧WOk (LOk T S) w1'∧QB X w w1∧w1.tape=w.tape∧R v w1') (G (Frame.enter (PP T F) f args .normal) ([]++(c::cs))) w:=by
  refine QbM (mid:=[]) hC hf (.inl rfl) (fun x hx=>by cases hx) hX hW fun t d=>?_;obtain⟨e,w1',fr1,⟨v,rfl,hR⟩,hs,hfn,hl⟩:=H t d [c0];rw[he]at hs;refine⟨fr1,[],w1',hs,.inr hl.1,fun w1 k1 _ k3 k4 k5 k6 k7=>⟨fr1,v,w1',rfl,k1,hl,k3,k4,k5,k6,k7,hR⟩⟩
 refine QhH h1 fun g w1 ⟨fr1,v,w1',hg,k1,⟨hm,hd,hk,fn,hfn,hres⟩,k3,k4,k5,k6,k7,hR⟩=>?_;subst hg;have hfn2:(PP T F).funcs[fr1.fn]? =some fn:=(hC.of.same fr1.fn k1.fn).symm.trans hfn
 have key:∀d,∃es,stepG (PP T F) true (G fr1 (c::cs)) (w1.at d)=.go (G (c.finish v) cs) (w1.at d) es∧w1.heap.size≤(w1.at d).heap.size∧∀B,(w1.at d).heap.size≤B→∀e∈es,Ev X B e:=by
  intro d;have hrd:=QaK fn fr1.tmps (PP T F) (w1.at d);obtain⟨ok,_⟩:=(KF (F:=F) (F':=F') (S:=S) (X:=X) fn fr1.tmps).tr (w1.at d) w1' ⟨k3.heap,k3.size,k3.os,k3.out⟩ ⟨k4.lt,k4.ob⟩ k5 (fun k hk=>by rw[hrd]at hk;omega);obtain⟨w2,e1,_,_,_,_,_,e7⟩:=ok v w1' hres;rw[e1]at hrd;have e2:w2=w1.at d:=hrd;subst e2;refine⟨seen (PP T F) fr1.fn ((results fn fr1.tmps).events (PP T F) (w1.at d) #[])++ #[],?_,Nat.le_refl _,fun B hB e he=>?_⟩
  ·have e3:stepG (PP T F) true (G fr1 (c::cs)) (w1.at d)=unwind (PP T F) true fr1 (c::cs) none (w1.at d):=by simp[stepG,G,hm]
   rw[e3];unfold unwind;rw[hd,hm];simp only[hfn2,Sem.runT_eq,e1,doReturn,hk,GStep.after];rfl
  ·exact e7 B hB #[] (fun e he=>by simp at he) e (mem_seen (by simpa using he))
 refine QhG (fun w=>w) rfl key fun d=>.stop ⟨v,w1',rfl,⟨k3.heap,k3.size,k3.os,k3.out⟩,⟨k4.lt,k4.ob⟩,k5,⟨k6.size,k6.ob⟩,k7,hR⟩
end
end Co
namespace Co
open Go.Conc Go.ConcN Go.RowKit
def ShB (SB:Nat→Prop)(l:Loc):Prop:=∃a,l=.cell a∧SB a.block
structure TrI (SB:Nat→Prop) (ng n:Nat) (t:Trace):Prop where
 quiet:Quiet (ShB SB) t
 seen:∀i a,touchAt t i=some a→a.loc.low n∧a.loc.isMemory=true
 gs:∀(i:Nat) (op:MemOp),t[i]? =some op→op.g<ng
theorem Qht {X:Nat→Bool}{SB:Nat→Prop}(hS:∀b,SB b→X b=true){ng n n':Nat}{t:Trace}{es:Array Event}{fn:FuncId}{pos:String}(h0:0<ng)(hn:n≤n')(h:TrI SB ng n t)(he:∀e∈es,Ev X n' e):TrI SB ng n' (t++MemOp.ofEvents 0 fn pos es):=by
 have touch:∀e∈es,∀x,(MemAct.ofEvent e).touch? =some x→(∃a,x.loc=.cell a∧X a.block=false∧a.block<n')∨∃r,x.loc=.obj r∧r<n':=by
  intro e hm x hx;have hv:=he e hm;obtain⟨loc,wr,sy⟩:=e;unfold Ev at hv
  cases loc with
  |cell a=>
   simp only[ofEvent_cell0,MemAct.touch?,Option.some.injEq]at hx;subst hx;exact .inl ⟨a,rfl,hv.1,hv.2⟩
  |obj r=>
   have hl:x.loc=.obj r:=by
    cases wr<;>cases sy<;>simp[MemAct.ofEvent,MemAct.touch?]at hx<;>subst hx<;>rfl
   exact .inr ⟨r,hl,hv⟩
  |mark m=>
   have hm':m=.noRoom:=hv;subst hm'
   cases hx
  |_=>exact hv.elim
 refine⟨h.quiet.app fun op hop x hx hs=>?_,fun i a ha=>?_,fun i op hi=>?_⟩
 ·obtain⟨e,hm,rfl⟩:=Go.Conc.mem_ofEvents hop;obtain⟨c,h1,h2⟩:=hs;rcases touch e hm x hx with⟨a,h3,h4,_⟩|⟨r,h3,_⟩
  ·rw[h3]at h1;cases h1;rw[hS _ h2]at h4;cases h4
  ·rw[h3]at h1;cases h1
 ·obtain⟨x,hx,hxa⟩:=touch_of ha;rcases getElem?_append_cases hx with⟨_,hx'⟩|⟨_,hxu⟩
  ·have:=h.seen i a (by rw[touchAt_of hx'];exact hxa);exact⟨Loc.low_mono hn this.1,this.2⟩
  ·obtain⟨e,hm,rfl⟩:=Go.Conc.mem_ofEvents hxu;rcases touch e hm a hxa with⟨c,h3,_,h5⟩|⟨r,h3,h5⟩<;>rw[h3]<;>exact⟨h5,rfl⟩
 ·rcases getElem?_append_cases hi with⟨_,hi'⟩|⟨_,hiu⟩
  ·exact h.gs i op hi'
  ·obtain⟨e,_,rfl⟩:=Go.Conc.mem_ofEvents hiu;exact h0
theorem Qbr {SB:Nat→Prop}{ng n:Nat}{t u:Trace}(h:TrI SB ng n t)(hu:∀op∈u,op.g<ng∧op.act.touch? =none):TrI SB ng n (t++u):=by
 refine⟨h.quiet.app fun op hop x hx hs=>(by rw[(hu op hop).2]at hx;cases hx),fun i a ha=>?_,fun i op hi=>?_⟩
 ·obtain⟨x,hx,hxa⟩:=touch_of ha;rcases getElem?_append_cases hx with⟨_,hx'⟩|⟨_,hxu⟩
  ·exact h.seen i a (by rw[touchAt_of hx'];exact hxa)
  ·rw[(hu x hxu).2]at hxa;cases hxa
 ·rcases getElem?_append_cases hi with⟨_,hi'⟩|⟨_,hiu⟩
  ·exact h.gs i op hi'
  ·exact(hu op hiu).1
structure Bt (X:Nat→Bool) (SB:Nat→Prop) (gs:Array Goroutine) (w:World) (t:Trace):Prop where
 lv:∃q,Leavers Tryz.prog t gs q
 past:∃B,Past (ShB SB) B t
 tri:TrI SB gs.size w.heap.size t
 sbx:∀b,SB b→X b=true
theorem J3 {X:Nat→Bool}{Ch:Nat}{SB:Nat→Prop}{Fin:Goroutine→World→Prop}{gs:Array Goroutine}{a:Goroutine}{w:World}{t:Trace}(h:Bt X SB gs w t)(h0:gs[0]? =some a)(hw:Qv Tryz.prog X Ch Fin a w)(sl:Option (Nat×Nat)):
 ∃N gs' a' w' sl' t',runNT Tryz.prog N (crowd gs w sl) t=(.next (crowd gs' w' sl'),t')∧gs'.size=gs.size∧gs'[0]? =some a'∧Fin a' w'∧Bt X SB gs' w' t':=by
 obtain⟨q,hq⟩:=h.lv;obtain⟨B,hB⟩:=h.past;have hpos:0<gs.size:=(Array.getElem?_eq_some_iff.1 h0).1;obtain⟨N,gs',a',w',sl',t',q',B',h1,h2,h3,h4,h5,h6,h7⟩:=QhF (Shun:=ShB SB) (fun l ⟨a,h1,h2⟩=>⟨a,h1,h.sbx _ h2⟩) (TrI SB gs.size) (fun n n' t es fn pos hn hI he=>Qht h.sbx hpos hn hI he)
  (fun n t u hI hu=>Qbr hI fun op hop=>⟨by rw[(hu op hop).1];exact hpos,(hu op hop).2⟩) gs.size (fun n t g es fn pos hI hg hlt hm=>Qbr hI fun op hop=>by obtain⟨e,he,rfl⟩:=Go.Conc.mem_ofEvents hop;exact⟨hlt,touch_mute (hm e he)⟩) hw gs sl t q B rfl h0 hq hB h.tri
 exact⟨N,gs',a',w',sl',t',h1,h2,h3,h4,⟨_,h5⟩,⟨_,h6⟩,by rw[h2];exact h7,h.sbx⟩
structure Sn (X:Nat→Bool) (w:World):Prop where
 xok:XOk X w
 wok:WOk (LOk Tryz.progTables Cut.keep) (emW X w)
theorem Za (X:Nat→Bool)(w:World)(r:Nat):(emW X w).heap[r]? =(w.heap[r]?).map (emO X r):=(Vv X w w.tape w.drawn).heap r
theorem QF (X:Nat→Bool)(w:World):(emW X w).heap.size=w.heap.size:=(Vv X w w.tape w.drawn).size
theorem KN {X:Nat→Bool}{r:Nat}(h:X r=false)(o:Obj):emO X r o=o:=by unfold emO;simp[h]
theorem Jj {X:Nat→Bool}{w:World}{r:Nat}(h:X r=false):(emW X w).heap[r]? =w.heap[r]? :=by
 rw[Za]
 cases w.heap[r]? with
 |none=>rfl
 |some o=>simp[KN h]
theorem Sn.at {X:Nat→Bool}{w:World}(h:Sn X w)(d:Nat):Sn X (w.at d):=⟨⟨h.xok.lt,h.xok.ob⟩,h.wok⟩
theorem Sn.out {X:Nat→Bool}{w:World}(h:Sn X w){r:Nat}(hr:w.heap.size≤r):X r=false:=by
 cases hx:X r with
 |false=>rfl
 |true=>have:=h.xok.lt r hx;omega
theorem Sn.turn {X:Nat→Bool}{w w':World}(h:Sn X w)(hs:w.heap.size≤w'.heap.size)(hx:∀r,X r=true→w'.heap[r]? =w.heap[r]?)(ho:∀r o,X r=false→w'.heap[r]? =some o→w.heap[r]? =some o∨(∃c e f,o=.cells c e f)∨∃a b c d e f,o=.chan a b c d e f):Sn X w':=by
 refine⟨⟨fun r hr=>Nat.lt_of_lt_of_le (h.xok.lt r hr) hs,fun r o hr he=>h.xok.ob r o hr ((hx r hr)▸he)⟩,fun r o he=>?_⟩
 cases hr:X r with
 |true=>
  rw[Za,hx r hr,←Za]at he;exact h.wok r o he
 |false=>
  rw[Jj hr]at he;rcases ho r o hr he with h1|⟨c,e,f,rfl⟩|⟨a,b,c,d,e,f,rfl⟩
  ·exact h.wok r o (by rw[Jj hr];exact h1)
  ·trivial
  ·trivial
theorem QfO {X:Nat→Bool}{w w1 w1' u:World}(hu:u.heap=(emW X w).heap)(hE:Em X w1 w1')(hK:QB X w w1)(hB:Below u.heap.size u w1'){b:Nat}(hb:b<w.heap.size):w1.heap[b]? =w.heap[b]? :=by
 cases hx:X b with
 |true=>exact hK.ob b hx
 |false=>
  have h1:=hE.heap b;have h2:=hB.block b (by rw[hu,QF];exact hb);rw[hu,Jj hx]at h2;rw[h2]at h1;rw[←h1.symm]at h2
  cases h3:w1.heap[b]? with
  |none=>
   rw[h3]at h1;rw[h1];rfl
  |some o=>
   rw[h3]at h1;simp only[Option.map_some,KN hx]at h1;exact h1.symm
theorem JR {X:Nat→Bool}{w1 w1':World}(hE:Em X w1 w1'){b:Nat}(hx:X b=false):w1.heap[b]? =w1'.heap[b]? :=by
 rw[hE.heap b]
 cases w1.heap[b]? with
 |none=>rfl
 |some o=>simp[KN hx]
theorem Ku {X:Nat→Bool}{Ch:Nat}{Fin:Goroutine→World→Prop}{f:FuncId}{args:Array Value}{c:Frame}{cs:List Frame}{w:World}(hk:Cut.keep f=true)(hs:Sn X w){R:Value→World→Prop}
 (H:∀t d,Calls Cut.prog f args {emW X w with tape:=t,drawn:=d} fun e w1=>∃v,e=.returned v∧R v w1∧Below w.heap.size {emW X w with tape:=t,drawn:=d} w1)
 (K:∀v w1 w1',Em X w1 w1'→Sn X w1→(∀b,b<w.heap.size→w1.heap[b]? =w.heap[b]?)→w.heap.size≤w1.heap.size→OO w1 w→R v w1'→Qv Tryz.prog X Ch Fin (G (c.finish v) cs) w1):
 Qv Tryz.prog X Ch Fin (G (Frame.enter Tryz.prog f args .normal) (c::cs)) w:=by
 have h1:=QbL (c:=c) (cs:=cs) Cut.cut hk hs.xok hs.wok (R:=fun v w1=>R v w1∧∃t d,Below w.heap.size {emW X w with tape:=t,drawn:=d} w1) (fun t d=>(H t d).mono fun e w1 ⟨v,he,hR,hB⟩=>⟨v,he,hR,t,d,hB⟩);refine PK h1 ?_;rintro g w1 ⟨v,w1',rfl,hE,hX,hW,hKp,_,hR,t,d,hB⟩;refine K v w1 w1' hE ⟨hX,fun r o ho=>hW r o ?_⟩ (fun b hb=>QfO (u:={emW X w with tape:=t,drawn:=d}) rfl hE hKp (by rw[show({emW X w with tape:=t,drawn:=d}:World).heap.size=w.heap.size from QF X w];exact hB) hb) hKp.size ⟨hE.os.symm.trans hB.os,hE.out.symm.trans hB.output⟩ hR;rw[hE.heap r,←Za];exact ho
end Co
namespace Co
open Go.Conc Go.ConcN
open Go.ConcR (KK wgBlock WgAt stA smA rd wr mk Payload Aside2 DC0 Bk g_of_ofEvents again_blocked)
/-! ### a phase:goroutine 0 starts tellers,and joins them-/
structure Ph where
 P:Program
 ty:TypeId
 Wg:Nat
 Ch:Nat
 Low:Nat
 m0:Nat
 n0:Nat
 SB:Nat→Prop
structure RK (S:Ph) (own:List Nat) (w w1:World):Prop where
 low:∀b,b<S.Low→b≠S.Wg→b≠S.Ch→w1.heap[b]? =w.heap[b]?
 own:∀b,b∈own→w1.heap[b]? =w.heap[b]?
 live:WgLive S.ty S.Wg w→WgLive S.ty S.Wg w1
 oo:OO w1 w
theorem RK.refl (S:Ph)(own:List Nat)(w:World):RK S own w w:=⟨fun _ _ _ _=>rfl,fun _ _=>rfl,id,.refl _⟩
theorem RK.trans {S:Ph}{own:List Nat}{a b c:World}(h:RK S own a b)(k:RK S own b c):RK S own a c:=
 ⟨fun x h1 h2 h3=>(k.low x h1 h2 h3).trans (h.low x h1 h2 h3),fun x hx=>(k.own x hx).trans (h.own x hx),k.live∘h.live,k.oo.trans h.oo⟩
theorem RK.at (S:Ph)(own:List Nat)(w:World)(d:Nat):RK S own w (w.at d):=⟨fun _ _ _ _=>rfl,fun _ _=>rfl,id,⟨rfl,rfl⟩⟩
theorem RK.mono {S:Ph}{own own':List Nat}{a b:World}(h:RK S own a b)(hs:∀x,x∈own'→x∈own):RK S own' a b:=⟨h.low,fun x hx=>h.own x (hs x hx),h.live,h.oo⟩
theorem RK.rl {S:Ph}{own:List Nat}{a b:World}(h:RK S own a b):RL S.ty S.Wg a b:=h.live
def EvK (S:Ph)(own:List Nat)(e:Event):Prop:=∃a wr,e=⟨.cell a,wr,false⟩∧¬S.SB a.block∧(a.block∈own∨(a.block<S.Low∧wr=false))
structure Zf (own own':List Nat) (w w':World):Prop where
 same:∀b,b<w.heap.size→b∉own→w'.heap[b]? =w.heap[b]?
 grow:(own'=own∧w'.heap.size=w.heap.size)∨(own'=w.heap.size::own∧w'.heap.size=w.heap.size+1)
 oo:OO w' w
theorem Zf.refl (own:List Nat)(w:World):Zf own own w w:=⟨fun _ _ _=>rfl,.inl ⟨rfl,rfl⟩,.refl _⟩
theorem PA {S:Ph}{own:List Nat}:∀a b c,RK S own a b→RK S own b c→RK S own a c:=fun _ _ _ h k=>h.trans k
theorem J1 {ty:TypeId}{Wg:Nat}:∀a b c,RL ty Wg a b→RL ty Wg b c→RL ty Wg a c:=fun _ _ _ h k=>k∘h
section
variable [Payload]
def OwC (C:Nat)(_:Nat)(l:Loc):Prop:=∃a,l=.cell a∧a.block=C
def Kj (_:Nat)(_:Loc):Prop:=False
def Jp (S:Ph):Nat→List Nat→List Value→Goroutine→World→Prop
 |0,own,left,g,w=>left=[]∧∃C val m,C∈own∧Goes S.P false (RW S.ty S.Wg C 1 0 0) (DWs S.Wg (OwC C) Kj C 1 1) (AtR0 S.P S.ty S.Wg C 1 0 1 val) m g w
 |s+1,own,left,g,w=>∃m,Goes S.P false (RK S own) DC0 (fun g w=>g.status=.running∧
   ((stepG S.P false g w).goes (fun g' w' es=>∃own',Zf own own' w w'∧(∀e∈es,EvK S own' e)∧Jp S s own' left g' w')∨
    ∃v left' g2 z shape,left=v::left'∧stepG S.P false g w=.comm g2 #[scase S.Ch v z] true shape w #[]∧Jp S s own left' (g2.finishComm S.P #[scase S.Ch v z] shape 0 undef false) w)) m g w
def Ug (S:Ph)(s:Nat)(own:List Nat)(left:List Value)(g:Goroutine)(w:World):Prop:=g.status=.running∧
     ((stepG S.P false g w).goes (fun g' w' es=>∃own',Zf own own' w w'∧(∀e∈es,EvK S own' e)∧Jp S s own' left g' w')∨
      ∃v left' g2 z shape,left=v::left'∧stepG S.P false g w=.comm g2 #[scase S.Ch v z] true shape w #[]∧Jp S s own left' (g2.finishComm S.P #[scase S.Ch v z] shape 0 undef false) w)
theorem Jo (S:Ph)(s:Nat)(own:List Nat)(left:List Value)(g:Goroutine)(w:World):Jp S (s+1) own left g w=∃m,Goes S.P false (RK S own) DC0 (Ug S s own left) m g w:=rfl
def JN (S:Ph)(Anch:Goroutine→World→Prop):Nat→Nat→List Nat→List (List Value)→Nat→Nat→Goroutine→World→Prop
 |0,_,_,rest,pend,d,g,w=>rest=[]∧pend=0∧d=0∧Sil S.P S.ty S.Wg (ZN S.P .disable (Sil S.P S.ty S.Wg Anch)) g w
 |s+1,bd,own,rest,pend,d,g,w=>∃m,Goes S.P true (RK S own) DC0 (fun g w=>g.status=.running∧
   ((stepG S.P true g w).goes (fun g' w' es=>∃own',Zf own own' w w'∧(∀e∈es,EvK S own' e)∧JN S Anch s bd own' rest pend d g' w')∨
    (∃x g',(x=.disable∨x=.enable∨x=.read (smA S.Wg))∧stepG S.P true g w=.go g' w #[mk x]∧JN S Anch s bd own rest pend (deafBehind d #[mk x]) g' w)∨
    (pend=0∧∀v:Nat,v<1000000→WgAt S.ty S.Wg w (v*KK) 0→∃g',stepG S.P true g w=.go g' (w.setCell (stA S.Wg) (.int .u64 ((v+1:Nat)*KK))) #[rd (stA S.Wg),wr (stA S.Wg)]∧
      JN S Anch s bd own rest 1 d g' (w.setCell (stA S.Wg) (.int .u64 ((v+1:Nat)*KK))))∨
    (d=0∧pend=1∧∃g' child bs own' l rest' sW bd',rest=l::rest'∧bd=bd'+(sW+8)∧(∀x,x∈bs→x∈own)∧(∀x,x∈own'→x∈own)∧(∀x,x∈bs→x∉own')∧
      stepG S.P true g w=.spawn g' child w #[]∧Jp S sW bs l child w∧JN S Anch s bd' own' rest' 0 0 g' w))) m g w
def Yw (S:Ph)(Anch:Goroutine→World→Prop)(s bd:Nat)(own:List Nat)(rest:List (List Value))(pend d:Nat)(g:Goroutine)(w:World):Prop:=g.status=.running∧
     ((stepG S.P true g w).goes (fun g' w' es=>∃own',Zf own own' w w'∧(∀e∈es,EvK S own' e)∧JN S Anch s bd own' rest pend d g' w')∨
      (∃x g',(x=.disable∨x=.enable∨x=.read (smA S.Wg))∧stepG S.P true g w=.go g' w #[mk x]∧JN S Anch s bd own rest pend (deafBehind d #[mk x]) g' w)∨
      (pend=0∧∀v:Nat,v<1000000→WgAt S.ty S.Wg w (v*KK) 0→∃g',stepG S.P true g w=.go g' (w.setCell (stA S.Wg) (.int .u64 ((v+1:Nat)*KK))) #[rd (stA S.Wg),wr (stA S.Wg)]∧
        JN S Anch s bd own rest 1 d g' (w.setCell (stA S.Wg) (.int .u64 ((v+1:Nat)*KK))))∨
      (d=0∧pend=1∧∃g' child bs own' l rest' sW bd',rest=l::rest'∧bd=bd'+(sW+8)∧(∀x,x∈bs→x∈own)∧(∀x,x∈own'→x∈own)∧(∀x,x∈bs→x∉own')∧
        stepG S.P true g w=.spawn g' child w #[]∧Jp S sW bs l child w∧JN S Anch s bd' own' rest' 0 0 g' w))
theorem Z3 (S:Ph)(Anch:Goroutine→World→Prop)(s bd:Nat)(own:List Nat)(rest:List (List Value))(pend d:Nat)(g:Goroutine)(w:World):
 JN S Anch (s+1) bd own rest pend d g w=∃m,Goes S.P true (RK S own) DC0 (Yw S Anch s bd own rest pend d) m g w:=rfl
theorem Y2 {S:Ph}{own:List Nat}{C:Nat}(hC:C∈own){w w1:World}(h:RK S own w w1):RW S.ty S.Wg C 1 0 0 w w1:=
 ⟨fun b hb=>absurd hb (Nat.not_lt_zero b),h.live,fun⟨cs,hc,hn⟩=>⟨cs,(h.own C hC).trans hc,hn⟩,cell_of_block (h.own C hC) 0⟩
theorem Y4 {ty:TypeId}{Wg C:Nat}:∀a b c,RW ty Wg C 1 0 0 a b→RW ty Wg C 1 0 0 b c→RW ty Wg C 1 0 0 a c:=fun _ _ _ h k=>h.trans k
theorem Jp.rely {S:Ph}{s:Nat}{own:List Nat}{left:List Value}{g:Goroutine}{w w1:World}(h:Jp S s own left g w)(hr:RK S own w w1):Jp S s own left g w1:=by
 cases s with
 |zero=>
  obtain⟨h1,C,val,m,hC,hg⟩:=h;exact⟨h1,C,val,m,hC,Goes.rely Y4 hg (Y2 hC hr)⟩
 |succ s=>
  obtain⟨m,hg⟩:=h;exact⟨m,Goes.rely PA hg hr⟩
end
end Co
namespace Co
open Go.Conc Go.ConcN Go.RowKit Go.Conc.Lib Go.ConcR.Gen Go.ConcN.Gen
open Go.ConcR (KK wgBlock WgAt stA smA rd wr mk Payload Aside2 DC0 ofEvent_cell)
set_option linter.unusedSimpArgs false
noncomputable def Yb:Code:=match Tryz.f111.body with
 |some (.seq _ (.block _ (.loop b)))=>b
 |_=>.skip
def Okb (S:Ph)(b:Nat):Prop:=b<S.Low∧b≠S.Wg∧b≠S.Ch∧¬S.SB b
structure Dat (S:Ph) (w0:World) (bh bw bt:Nat) (wa:Option Addr) (wcap:Nat) (ws:List (Int×Int)) (gW:Nat) (wh:List Int):Prop where
 hb:w0.cell? ⟨bh,2,none⟩=some (.slice wa ws.length wcap)
 wb:w0.cell? ⟨bw,0,none⟩=some (.slice (some ⟨gW,0,none⟩) wh.length wh.length)
 tb:w0.cell? ⟨bt,0,none⟩=some (.chan (some S.Ch))
 ohb:Okb S bh
 owb:Okb S bw
 otb:Okb S bt
 ogw:Okb S gW
 sw:∀k (h:k<ws.length),∃b off,wa=some ⟨b,off,none⟩∧Okb S b∧w0.cell? ⟨b,off+k*2,none⟩=some (.int .i64 ws[k].1)∧w0.cell? ⟨b,off+k*2+1,none⟩=some (.int .i64 ws[k].2)
 sg:∀k (h:k<wh.length),w0.cell? ⟨gW,k,none⟩=some (.int .i64 wh[k])
 ob:∀k (h:k<ws.length),0≤ws[k].2∧ws[k].2<(wh.length:Int)
 big:S.Low≤w0.heap.size
 nw:(ws.length:Int)<1000000
 no:(wh.length:Int)<1000000
structure TF (S:Ph) (w0:World) (bp:Nat) (pv:Int) (w:World):Prop where
 low:∀b,b<S.Low→b≠S.Wg→b≠S.Ch→w.heap[b]? =w0.heap[b]?
 live:WgLive S.ty S.Wg w
 pl:w.cell? ⟨bp,0,none⟩=some (.int .i64 pv)
theorem TF.rely {S:Ph}{w0:World}{bp:Nat}{pv:Int}{own:List Nat}(hp:bp∈own){w w1:World}(h:TF S w0 bp pv w)(r:RK S own w w1):TF S w0 bp pv w1:=
 ⟨fun b h1 h2 h3=>(r.low b h1 h2 h3).trans (h.low b h1 h2 h3),r.live h.live,(cell_of_block (r.own bp hp) 0).trans h.pl⟩
theorem TF.cell {S:Ph}{w0:World}{bp:Nat}{pv:Int}{w:World}(h:TF S w0 bp pv w){b:Nat}(hb:Okb S b)(o:Nat):w.cell? ⟨b,o,none⟩=w0.cell? ⟨b,o,none⟩:=cell_of_block (h.low b hb.1 hb.2.1 hb.2.2.1) o
theorem QbA (own:List Nat)(w:World)(o:Obj):Zf own (w.heap.size::own) w (w.alloc o):=
 ⟨fun b hb _=>Below.heap_alloc w o b hb,.inr ⟨rfl,by simp⟩,⟨rfl,rfl⟩⟩
theorem TF.lt {S:Ph}{w0:World}{bp:Nat}{pv:Int}{w:World}(hbig:S.Low≤w0.heap.size)(h:TF S w0 bp pv w){b:Nat}(hb:(b<S.Low∧b≠S.Wg∧b≠S.Ch)∨b=S.Wg∨b=bp):b<w.heap.size:=by
 rcases hb with⟨h1,h2,h3⟩|rfl|rfl
 ·have:=h.low b h1 h2 h3;rw[Array.getElem?_eq_getElem (show b<w0.heap.size by omega)]at this;exact(Array.getElem?_eq_some_iff.1 this).1
 ·obtain⟨st,sm,hl⟩:=h.live;exact(Array.getElem?_eq_some_iff.1 hl).1
 ·have:=h.pl;unfold World.cell? at this
  cases hx:w.heap[b]? with
  |none=>simp[hx]at this
  |some o=>exact(Array.getElem?_eq_some_iff.1 hx).1
theorem TF.keep {S:Ph}{w0:World}{bp:Nat}{pv:Int}{w w':World}(h:TF S w0 bp pv w)(hs:∀b,(b<S.Low∧b≠S.Wg∧b≠S.Ch)∨b=S.Wg∨b=bp→w'.heap[b]? =w.heap[b]?):TF S w0 bp pv w':=
 ⟨fun b h1 h2 h3=>(hs b (.inl ⟨h1,h2,h3⟩)).trans (h.low b h1 h2 h3),let⟨st,sm,hl⟩:=h.live;⟨st,sm,hl.of_block (hs _ (.inr (.inl rfl)))⟩,(cell_of_block (hs bp (.inr (.inr rfl))) 0).trans h.pl⟩
theorem TF.alloc {S:Ph}{w0:World}{bp:Nat}{pv:Int}{w:World}(hbig:S.Low≤w0.heap.size)(h:TF S w0 bp pv w)(o:Obj):TF S w0 bp pv (w.alloc o):=
 h.keep fun b hb=>Below.heap_alloc w o b (h.lt hbig hb)
structure TX (S:Ph) (w0:World) (bp:Nat) (pv:Int) (bx:Nat) (x y:Int) (w:World):Prop extends TF S w0 bp pv w where
 bk:w.heap[bx]? =some (.cells #[.int .i64 x,.int .i64 y] 40)
 ne:∀b,(b<S.Low∧b≠S.Wg∧b≠S.Ch)∨b=S.Wg∨b=bp→b≠bx
 ns:¬S.SB bx
theorem TX.rely {S:Ph}{w0:World}{bp:Nat}{pv:Int}{bx:Nat}{x y:Int}{own:List Nat}(hp:bp∈own)(hx:bx∈own){w w1:World}(h:TX S w0 bp pv bx x y w)(r:RK S own w w1):TX S w0 bp pv bx x y w1:=
 ⟨h.toTF.rely hp r,(r.own bx hx).trans h.bk,h.ne,h.ns⟩
theorem TX.c0 {S:Ph}{w0:World}{bp:Nat}{pv:Int}{bx:Nat}{x y:Int}{w:World}(h:TX S w0 bp pv bx x y w):w.cell? ⟨bx,0,none⟩=some (.int .i64 x):=by simp[World.cell?,h.bk]
theorem TX.c1 {S:Ph}{w0:World}{bp:Nat}{pv:Int}{bx:Nat}{x y:Int}{w:World}(h:TX S w0 bp pv bx x y w):w.cell? ⟨bx,1,none⟩=some (.int .i64 y):=by simp[World.cell?,h.bk]
theorem TX.f0 {S:Ph}{w0:World}{bp:Nat}{pv:Int}{bx:Nat}{x y:Int}{w:World}(h:TX S w0 bp pv bx x y w)(o:Nat):w.frozen? ⟨bx,o,none⟩=false:=by simp[World.frozen?,h.bk]
theorem TX.set {S:Ph}{w0:World}{bp:Nat}{pv:Int}{bx:Nat}{x y x' y':Int}{w:World}(h:TX S w0 bp pv bx x y w):TX S w0 bp pv bx x' y' ((w.setCell ⟨bx,0,none⟩ (.int .i64 x')).setCell ⟨bx,1,none⟩ (.int .i64 y')):=by
 have hb:Blk w bx [.int .i64 x,.int .i64 y] 40:=h.bk;have h2:=(hb.store 0 (.int .i64 x')).store 1 (.int .i64 y');refine⟨h.toTF.keep fun b hb=>?_,h2,h.ne,h.ns⟩;rw[Below.heap_setCell _ _ _ _ (h.ne b hb),Below.heap_setCell _ _ _ _ (h.ne b hb)]
theorem Qhy {own:List Nat}{w:World}{bx:Nat}(hx:bx∈own)(v u:Value):Zf own own w ((w.setCell ⟨bx,0,none⟩ v).setCell ⟨bx,1,none⟩ u):=by
 refine⟨fun b _ hb=>?_,.inl ⟨rfl,by simp⟩,⟨rfl,rfl⟩⟩;have hne:b≠bx:=fun e=>hb (e▸hx);rw[Below.heap_setCell _ _ _ _ hne,Below.heap_setCell _ _ _ _ hne]
theorem Qa4 {P:Program}{b:Frame}{a:Act}{k:List Item}{cs:List Frame}{ops:Array Oper}{i:Nat}{rest:List Nat}{o:Oper}{x y:Operand}{v:Value}{c:Nat}(w:World)(ho:ops[i]? =some o)(hw:Region.wanted o (yielded ops a.tmps)=true)(hk:b.kind≠.early)(hop:o.op=.send x y)
 (hx:a.eval x=.chan (some c))(hy:a.eval y=v):
 stepG P false (G (b.at a (.inRegion ops (i::rest)::k)) cs) w=.comm (G (b.at a (.inRegion ops (i::rest)::k)) cs) #[scase c v (.tuple #[])] true .send w #[]∧
  (G (b.at a (.inRegion ops (i::rest)::k)) cs).finishComm P #[scase c v (.tuple #[])] .send 0 undef false=G (b.at (a.put o.dst undef) (.inRegion ops rest::k)) cs:=by
 constructor
 ·rw[stepG_comm (cases:=#[scase c v (.tuple #[])]) (blocking:=true) (shape:=.send) (w':=w) ho hw hk (by simp[execOp,hop,hx,hy,scase])]
  have he:(execOp a.eval o).events P w #[]=#[]:=by
   unfold execOp;simp only[hop];rfl
  unfold listed;rw[he];simp[seen]
 ·rw[finishComm_send,served_G];simp[ho]
def JA (pv:Int)(wh:List Int)(x:Int×Int):Bool:=decide (x.1=pv)&&decide (wh.getD x.2.toNat 0<0)
def Jy (pv:Int)(wh:List Int):Nat→List (Int×Int)→List Value
 |_,[]=>[]
 |k,x::l=>if JA pv wh x then .int .i64 k::Jy pv wh (k+1) l else Jy pv wh (k+1) l
def hs (pv:Int)(wh:List Int):List (Int×Int)→Nat
 | []=>0
 |x::l=>(if x.1=pv then(if wh.getD x.2.toNat 0<0 then hs pv wh l+4 else hs pv wh l+3)else hs pv wh l+1)+4
theorem P3 (T:Array Value)(h:T.size=32):∃v0 v1 v2 v3 v4 v5 v6 v7 v8 v9 v10 v11 v12 v13 v14 v15 v16 v17 v18 v19 v20 v21 v22 v23 v24 v25 v26 v27 v28 v29 v30 v31,T=#[v0,v1,v2,v3,v4,v5,v6,v7,v8,v9,v10,v11,v12,v13,v14,v15,v16,v17,v18,v19,v20,v21,v22,v23,v24,v25,v26,v27,v28,v29,v30,v31]:=by
 obtain⟨l⟩:=T;simp only[List.size_toArray]at h;rcases l with _|⟨v0,l⟩
 ·simp at h
 rcases l with _|⟨v1,l⟩
 ·simp at h
 rcases l with _|⟨v2,l⟩
 ·simp at h
 rcases l with _|⟨v3,l⟩
 ·simp at h
 rcases l with _|⟨v4,l⟩
 ·simp at h
 rcases l with _|⟨v5,l⟩
 ·simp at h
 rcases l with _|⟨v6,l⟩
 ·simp at h
 rcases l with _|⟨v7,l⟩
 ·simp at h
 rcases l with _|⟨v8,l⟩
 ·simp at h
 rcases l with _|⟨v9,l⟩
 ·simp at h
 rcases l with _|⟨v10,l⟩
 ·simp at h
 rcases l with _|⟨v11,l⟩
 ·simp at h
 rcases l with _|⟨v12,l⟩
 ·simp at h
 rcases l with _|⟨v13,l⟩
 ·simp at h
 rcases l with _|⟨v14,l⟩
 ·simp at h
 rcases l with _|⟨v15,l⟩
 ·simp at h
 rcases l with _|⟨v16,l⟩
 ·simp at h
 rcases l with _|⟨v17,l⟩
 ·simp at h
 rcases l with _|⟨v18,l⟩
 ·simp at h
 rcases l with _|⟨v19,l⟩
 ·simp at h
 rcases l with _|⟨v20,l⟩
 ·simp at h
 rcases l with _|⟨v21,l⟩
 ·simp at h
 rcases l with _|⟨v22,l⟩
 ·simp at h
 rcases l with _|⟨v23,l⟩
 ·simp at h
 rcases l with _|⟨v24,l⟩
 ·simp at h
 rcases l with _|⟨v25,l⟩
 ·simp at h
 rcases l with _|⟨v26,l⟩
 ·simp at h
 rcases l with _|⟨v27,l⟩
 ·simp at h
 rcases l with _|⟨v28,l⟩
 ·simp at h
 rcases l with _|⟨v29,l⟩
 ·simp at h
 rcases l with _|⟨v30,l⟩
 ·simp at h
 rcases l with _|⟨v31,l⟩
 ·simp at h
 obtain rfl:l=[]:=by
  cases l with
  |nil=>rfl
  |cons=>simp at h
 exact⟨v0,v1,v2,v3,v4,v5,v6,v7,v8,v9,v10,v11,v12,v13,v14,v15,v16,v17,v18,v19,v20,v21,v22,v23,v24,v25,v26,v27,v28,v29,v30,v31,rfl⟩
structure LH (S:Ph) (pv:Int) (wa:Option Addr) (n wcap gW no:Nat) (k:Nat) (T:Array Value):Prop where
 sz:T.size=32
 t0:T[0]? =some (.int .i64 pv)
 t2:T[2]? =some (.slice (some ⟨gW,0,none⟩) no no)
 t3:T[3]? =some (.chan (some S.Ch))
 t10:T[10]? =some (.slice wa n wcap)
 t11:T[11]? =some (.int .i64 n)
 t12:T[12]? =some (.int .i64 k)
section
variable [Payload] {S:Ph} {w0:World} {bh bw bt:Nat} {wa:Option Addr} {wcap:Nat} {ws:List (Int×Int)} {gW:Nat} {wh:List Int}
theorem Qhi {bp:Nat}(hP:S.P=Tryz.prog)(hSB:∀b,S.SB b→(b<S.Low∧b≠S.Wg∧b≠S.Ch)∨b=S.Wg∨b=bp)(hD:Dat S w0 bh bw bt wa wcap ws gW wh){pv:Int}{cs:List Frame}{k:Nat}(hk:k<ws.length){x y z:Int}(hx:ws[k].1=x)(hy:ws[k].2=y)(hz:wh.getD y.toNat 0=z){s m:Nat}{left lf:List Value}
 (h1:x≠pv→m=s+1∧lf=left)(h2:x=pv→z<0→m=s+4∧lf=.int .i64 k::left)(h3:x=pv→¬z<0→m=s+3∧lf=left)
 (hH:∀T,LH S pv wa ws.length wcap gW wh.length (k+1) T→∀own w,bp∈own→TF S w0 bp pv w→Ug S s own left (G ((base 111).at ⟨T,[]⟩ [.code Yb,.inLoop Yb,.inBlock 0]) cs) w)
 {T:Array Value}(hT:LH S pv wa ws.length wcap gW wh.length k T){own:List Nat}{w:World}(hp:bp∈own)(hF:TF S w0 bp pv w):
 Ug S (m+4) own lf (G ((base 111).at ⟨T,[]⟩ [.code Yb,.inLoop Yb,.inBlock 0]) cs) w:=by
 obtain⟨v0,v1,v2,v3,v4,v5,v6,v7,v8,v9,v10,v11,v12,v13,v14,v15,v16,v17,v18,v19,v20,v21,v22,v23,v24,v25,v26,v27,v28,v29,v30,v31,rfl⟩:=P3 T hT.sz;obtain⟨_,t0,t2,t3,t10,t11,t12⟩:=hT;simp only[List.getElem?_toArray,List.getElem?_cons_zero,List.getElem?_cons_succ,Option.some.injEq]at t0 t2 t3 t10 t11 t12;subst t0 t2 t3 t10 t11 t12;obtain⟨b,off,rfl,hb,c1,c2⟩:=hD.sw k hk;obtain⟨hy0,hyn⟩:=hD.ob k hk;have hnw:=hD.nw;have hbig:=hD.big;have hogw:=hD.ogw;have hsg:=hD.sg;rw[hx]at c1;rw[hy]at c2 hy0 hyn;clear hx hy;have hlt:(k:Int)<(ws.length:Int):=by omega
 have hk0:(0:Int)≤(k:Int):=by omega
 have hkw:IntKind.i64.wrap ((k:Int)+1)=((k+1:Nat):Int):=by rw[IntKind.wrap_i64];omega
 clear hD;refine⟨rfl,.inl ?_⟩;rw[hP];simp only[Yb,Tryz.f111]at hH⊢;rw[stepG_seq];simp only[goes_go];refine⟨own,Zf.refl own w,by simp,?_⟩;rw[Jo,hP];refine⟨50,?_⟩;u_reg (TF.rely hp) hF;u_op (TF.rely hp) hF;u_c stepG_region_end (TF.rely hp) hF;u_c stepG_seq (TF.rely hp) hF
 u_cond true (TF.rely hp) hF
 u_c stepG_skip (TF.rely hp) hF;u_c stepG_seq (TF.rely hp) hF;u_c stepG_block (TF.rely hp) hF;u_c stepG_seq (TF.rely hp) hF;u_reg (TF.rely hp) hF;u_op (TF.rely hp) hF;u_op (TF.rely hp) hF;refine Goes.stop (fun w1 hw1=>?_);replace hF:=TF.rely hp hF hw1;clear hw1;refine⟨rfl,.inl ?_⟩;rw[hP];refine goes_oper_k rfl rfl (by decide) (fun K hK=>?_);have e1:=(hF.cell hb _).trans c1;have e2:=(hF.cell hb _).trans c2;go_simp;refine hK _ _ ⟨own,Zf.refl own _,fun e he=>?_,?_⟩
 ·have hm:=mem_listed he;simp[go_sem,e1,e2]at hm;rcases hm with rfl|rfl<;>exact⟨_,_,rfl,hb.2.2.2,.inr ⟨hb.1,rfl⟩⟩
 clear e1 e2;clear hK K;rw[Jo,hP];refine⟨40,?_⟩;refine Goes.stop (fun w2 hw1=>?_);replace hF:=TF.rely hp hF hw1;clear hw1;refine⟨rfl,.inl ?_⟩;rw[hP];refine goes_oper_k rfl rfl (by decide) (fun K hK=>?_);go_simp;refine hK _ _ ⟨w2.heap.size::own,QbA own w2 _,fun e he=>?_,?_⟩
 ·have hm:=mem_listed he;simp[go_sem]at hm
 clear hK K;obtain⟨bx,hbx⟩:∃bx,bx=w2.heap.size:=⟨_,rfl⟩
 replace hF:TX S w0 bp pv bx 0 0 (w2.alloc (Obj.cells #[Value.int IntKind.i64 0,Value.int IntKind.i64 0] 40)):=
  ⟨hF.alloc hbig _,by rw[hbx];exact heap_alloc_new w2 _,fun b hb=>by have:=hF.lt hbig hb;omega,fun hs=>by have:=hF.lt hbig (hSB _ hs);omega⟩
 have hpx:bp∈bx::own:=List.mem_cons_of_mem _ hp;have hxx:bx∈bx::own:=List.mem_cons_self;rw[Jo,hP];refine⟨20,?_⟩;rw[←hbx];clear hbx;u_op (TX.rely hpx hxx) hF;refine Goes.stop (fun w3 hw1=>?_);replace hF:=TX.rely hpx hxx hF hw1;clear hw1;refine⟨rfl,.inl ?_⟩;rw[hP];refine goes_oper_k rfl rfl (by decide) (fun K hK=>?_);have e1:=hF.c0;have e2:=hF.c1;have e3:=hF.f0 0;have e4:=hF.f0 1;go_simp
 try(unfold stored;go_simp)
 refine hK _ _ ⟨bx::own,Qhy hxx _ _,fun e he=>?_,?_⟩
 ·have hm:=mem_listed he;simp[go_sem,storedEv,e1,e2,e3,e4]at hm;rcases hm with rfl|rfl<;>exact⟨_,_,rfl,hF.ns,.inl hxx⟩
 clear e1 e2 e3 e4;replace hF:=hF.set (x':=x) (y':=y);clear hK K;rw[Jo,hP];refine⟨40,?_⟩;u_c stepG_region_end (TX.rely hpx hxx) hF;u_c stepG_seq (TX.rely hpx hxx) hF;u_reg (TX.rely hpx hxx) hF;u_op (TX.rely hpx hxx) hF;refine Goes.stop (fun w4 hw1=>?_);replace hF:=TX.rely hpx hxx hF hw1;clear hw1;refine⟨rfl,.inl ?_⟩;rw[hP];refine goes_oper_k rfl rfl (by decide) (fun K hK=>?_);have e1:=hF.c0;go_simp;refine hK _ _ ⟨bx::own,Zf.refl _ _,fun e he=>?_,?_⟩
 ·have hm:=mem_listed he;simp[go_sem,e1]at hm;subst hm;exact⟨_,_,rfl,hF.ns,.inl hxx⟩
 clear e1 hK K;by_cases hq:x=pv
 ·subst hq
  obtain⟨m,rfl⟩:∃m',m=m'+2:=⟨m-2,by
   by_cases hz0:z<0
   ·have:=(h2 rfl hz0).1;omega
   ·have:=(h3 rfl hz0).1;omega⟩
  rw[Jo,hP];refine⟨40,?_⟩;u_op (TX.rely hpx hxx) hF;u_op (TX.rely hpx hxx) hF;u_op (TX.rely hpx hxx) hF;u_op (TX.rely hpx hxx) hF;u_op (TX.rely hpx hxx) hF;refine Goes.stop (fun w5 hw1=>?_);replace hF:=TX.rely hpx hxx hF hw1;clear hw1;refine⟨rfl,.inl ?_⟩;rw[hP];refine goes_oper_k rfl rfl (by decide) (fun K hK=>?_);have e1:=hF.c1;go_simp;refine hK _ _ ⟨bx::own,Zf.refl _ _,fun e he=>?_,?_⟩
  ·have hm:=mem_listed he;simp[go_sem,e1]at hm;subst hm;exact⟨_,_,rfl,hF.ns,.inl hxx⟩
  clear e1 hK K;rw[Jo,hP];refine⟨40,?_⟩;obtain⟨n,rfl⟩:∃n:Nat,y=n:=⟨y.toNat,by omega⟩;have hyn':n<wh.length:=by omega
  simp only[Int.toNat_natCast]at hz;have c3:=hsg n hyn';have ew:wh.getD n 0=wh[n]:=by simp[List.getD,List.getElem?_eq_getElem hyn']
  rw[←ew,hz]at c3;clear ew hz;u_op (TX.rely hpx hxx) hF;refine Goes.stop (fun w6 hw1=>?_);replace hF:=TX.rely hpx hxx hF hw1;clear hw1;refine⟨rfl,.inl ?_⟩;rw[hP];refine goes_oper_k rfl rfl (by decide) (fun K hK=>?_);have e1:=(hF.cell hogw _).trans c3;go_simp;refine hK _ _ ⟨bx::own,Zf.refl _ _,fun e he=>?_,?_⟩
  ·have hm:=mem_listed he;simp[go_sem,e1]at hm;subst hm;exact⟨_,_,rfl,hogw.2.2.2,.inr ⟨hogw.1,rfl⟩⟩
  clear e1 hK K;by_cases hz0:z<0
  ·obtain⟨hm,rfl⟩:=h2 rfl hz0;obtain rfl:m=s+2:=by omega
   have hz1:decide (z<0)=true:=decide_eq_true hz0;clear h1 h2 h3;rw[Jo,hP];refine⟨40,?_⟩;u_op (TX.rely hpx hxx) hF;u_op (TX.rely hpx hxx) hF;u_c stepG_region_end (TX.rely hpx hxx) hF
   u_cond true (TX.rely hpx hxx) hF
   u_reg (TX.rely hpx hxx) hF;u_op (TX.rely hpx hxx) hF;u_op (TX.rely hpx hxx) hF;refine Goes.stop (fun w7 hw1=>?_);replace hF:=TX.rely hpx hxx hF hw1;clear hw1;refine⟨rfl,.inr ?_⟩;refine⟨_,left,_,_,_,rfl,(Qa4 (P:=S.P) (v:=.int .i64 k) (c:=S.Ch) w7 rfl rfl (by decide) rfl rfl rfl).1,?_⟩;rw[(Qa4 (P:=S.P) (v:=.int .i64 k) (c:=S.Ch) w7 rfl rfl (by decide) rfl rfl rfl).2];rw[Jo,hP];refine⟨40,?_⟩;walk_nrm;u_c stepG_region_end (TX.rely hpx hxx) hF;u_c stepG_inBlock (TX.rely hpx hxx) hF;u_reg (TX.rely hpx hxx) hF;u_op (TX.rely hpx hxx) hF;u_op (TX.rely hpx hxx) hF;u_c stepG_region_end (TX.rely hpx hxx) hF;u_c stepG_inLoop (TX.rely hpx hxx) hF;exact Goes.stop (fun w9 h9=>hH _ ⟨rfl,rfl,rfl,rfl,rfl,rfl,rfl⟩ _ _ hpx (TX.rely hpx hxx hF h9).toTF)
  ·obtain⟨hm,rfl⟩:=h3 rfl hz0;obtain rfl:m=s+1:=by omega
   have hz1:decide (z<0)=false:=decide_eq_false hz0;clear h1 h2 h3;rw[Jo,hP];refine⟨40,?_⟩;u_op (TX.rely hpx hxx) hF;u_op (TX.rely hpx hxx) hF;u_c stepG_region_end (TX.rely hpx hxx) hF
   u_cond false (TX.rely hpx hxx) hF
   u_c stepG_skip (TX.rely hpx hxx) hF;u_c stepG_inBlock (TX.rely hpx hxx) hF;u_reg (TX.rely hpx hxx) hF;u_op (TX.rely hpx hxx) hF;u_op (TX.rely hpx hxx) hF;u_c stepG_region_end (TX.rely hpx hxx) hF;u_c stepG_inLoop (TX.rely hpx hxx) hF;exact Goes.stop (fun w9 h9=>hH _ ⟨rfl,rfl,rfl,rfl,rfl,rfl,rfl⟩ _ _ hpx (TX.rely hpx hxx hF h9).toTF)
 ·obtain⟨rfl,rfl⟩:=h1 hq;have hq1:decide (x=pv)=false:=decide_eq_false hq;have hq2:(x ==pv)=false:=by simp[hq]
  clear h1 h2 h3;rw[Jo,hP];refine⟨40,?_⟩;u_op (TX.rely hpx hxx) hF;u_op (TX.rely hpx hxx) hF;u_op (TX.rely hpx hxx) hF
  u_skip (TX.rely hpx hxx) hF
  u_skip (TX.rely hpx hxx) hF
  u_skip (TX.rely hpx hxx) hF
  u_skip (TX.rely hpx hxx) hF
  u_skip (TX.rely hpx hxx) hF
  u_skip (TX.rely hpx hxx) hF
  u_op (TX.rely hpx hxx) hF;u_c stepG_region_end (TX.rely hpx hxx) hF
  u_cond false (TX.rely hpx hxx) hF
  u_c stepG_skip (TX.rely hpx hxx) hF;u_c stepG_inBlock (TX.rely hpx hxx) hF;u_reg (TX.rely hpx hxx) hF;u_op (TX.rely hpx hxx) hF;u_op (TX.rely hpx hxx) hF;u_c stepG_region_end (TX.rely hpx hxx) hF;u_c stepG_inLoop (TX.rely hpx hxx) hF;exact Goes.stop (fun w9 h9=>hH _ ⟨rfl,rfl,rfl,rfl,rfl,rfl,rfl⟩ _ _ hpx (TX.rely hpx hxx hF h9).toTF)
end
end Co
end Go.Proofs.YtcpnkpogebjieaaGreat
