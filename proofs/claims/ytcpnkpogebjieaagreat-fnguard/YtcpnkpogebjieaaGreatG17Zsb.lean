/- A heap in rows of its own is marked, and held against the marks. -/
import Derived.Test.YtcpnkpogebjieaaGreatG16Mk3
import Derived.Test.YtcpnkpogebjieaaGreatG07Za
import Derived.Test.YtcpnkpogebjieaaGreatG06Tw
import Derived.Test.YtcpnkpogebjieaaGreatG08Base
open Go.Value renaming slice→Qhp
namespace Go.Proofs.YtcpnkpogebjieaaGreat
section
open Go.RowKit
def Yk (y:Hp)(b:Nat):Prop:=(Qhp y.oa y.os.length y.ocap).ownBlock=some b∨(∃i,∃h:i<y.os.length,y.os[i].rv.ownBlock=some b)∨(Qhp y.ra y.rs.length y.rcap).ownBlock=some b∨(Qhp y.wa y.ws.length y.wcap).ownBlock=some b∨(Qhp y.da y.ds.length y.dcap).ownBlock=some b
theorem Zd.rows_lt {w:World}{B:Nat}{y:Hp}(h:Zd w B y):∀b,Yk y b→B≤b∧b<w.heap.size:=by
 rintro b (e|⟨i,hi,e⟩|e|e|e)
 ·exact h.ob.lt b e
 ·exact h.rs.lt i hi b e
 ·exact h.ro.lt b e
 ·exact h.wa.lt b e
 ·exact h.da.lt b e
theorem Zd.rows_ty {w:World}{B:Nat}{y:Hp}(h:Zd w B y):∀b,Yk y b→∃cur e,w.heap[b]? =some (.cells cur e (0,0))∧(e=3∨e=37∨e=40):=by
 rintro b (e|⟨i,hi,e⟩|e|e|e)
 ·obtain⟨c,hc⟩:=Zx h.ob e
  exact⟨c,_,hc,.inr (.inl rfl)⟩
 ·obtain⟨c,hc⟩:=Zx (h.rs.own i hi) e
  exact⟨c,_,hc,.inl rfl⟩
 ·obtain⟨c,hc⟩:=Zx h.ro e
  exact⟨c,_,hc,.inl rfl⟩
 ·obtain⟨c,hc⟩:=Zx h.wa e
  exact⟨c,_,hc,.inr (.inr rfl)⟩
 ·obtain⟨c,hc⟩:=Zx h.da e
  exact⟨c,_,hc,.inr (.inr rfl)⟩
theorem Zd.not_box {w:World}{B b t:Nat}{y:Hp}{cs:List Value}(h:Zd w B y)(hb:Blk w b cs t)(n1:t≠3)(n2:t≠37)(n3:t≠40):¬Yk y b:=fun hr=>by
 obtain⟨cur,e,hc,he⟩:=h.rows_ty b hr
 unfold Blk at hb
 rw[hb]at hc
 simp at hc
 rcases he with he|he|he
 ·exact n1 (hc.2.trans he)
 ·exact n2 (hc.2.trans he)
 ·exact n3 (hc.2.trans he)
end
namespace Co
open Go.RowKit
theorem Qg.heap {w w':World}{h:Hp}(hh:Qg w h)(hs:w.heap.size≤w'.heap.size)(ho:∀b,b<w.heap.size→w'.heap[b]? =w.heap[b]?):Qg w' h:=by
 have h1:=hh.below (B:=w.heap.size) (w':={w with heap:=w'.heap}) ⟨rfl,rfl,rfl,hs,ho⟩ (Nat.le_refl _)
 exact⟨h1.so,h1.sr,h1.sw,h1.sd⟩
theorem ZO {w w':World}{N n:Nat}{e:TypeId}{sz:Nat}{v:Value}{xs:List Value}(h:w.ownsRow N e sz v n xs)(ho:∀b,v.ownBlock=some b→w'.heap[b]? =w.heap[b]?):w'.ownsRow N e sz v n xs:=by
 obtain⟨h1,h2|⟨g,cp,cur,h2,h3,h4,h5⟩⟩:=h
 ·exact⟨h1,.inl h2⟩
 ·refine⟨h1,.inr ⟨g,cp,cur,h2,h3,(ho g (by rw[h2];rfl)).trans h4,h5⟩⟩
theorem Yc {w:World}{N N' n:Nat}{e:TypeId}{sz:Nat}{v:Value}{xs:List Value}(h:w.ownsRow N' e sz v n xs)(hN:N≤N'):w.ownsRow N e sz v n xs:=by
 obtain⟨h1,h2|⟨g,cp,cur,h2,h3,h4,h5⟩⟩:=h
 ·exact⟨h1,.inl h2⟩
 ·exact⟨h1,.inr ⟨g,cp,cur,h2,Nat.le_trans hN h3,h4,h5⟩⟩
def Hp.cells (y:Hp):List Value:=[Qhp y.oa y.os.length y.ocap,Qhp y.ra y.rs.length y.rcap,Qhp y.wa y.ws.length y.wcap,Qhp y.da y.ds.length y.dcap]
def Z4 (R Rr:Act→World→Prop):Exit→Act→World→Prop
 | .normal,a,w=>R a w
 | .ret,a,w=>Rr a w
 |_,_,_=>False
theorem _root_.Go.Proofs.YtcpnkpogebjieaaGreat.OwnP.same {w w':World}{B:Nat}{y:Hp}(h:Zd w B y)(hs:∀b,Yk y b→w'.heap[b]? =w.heap[b]?):Zd w' B y:=
 ⟨ZO h.ob fun b hb=>hs b (.inl hb),⟨fun i hi=>ZO (h.rs.own i hi) fun b hb=>hs b (.inr (.inl ⟨i,hi,hb⟩)),h.rs.inc⟩,ZO h.ro fun b hb=>hs b (.inr (.inr (.inl hb))),h.rlt,
   ZO h.wa fun b hb=>hs b (.inr (.inr (.inr (.inl hb)))),ZO h.da fun b hb=>hs b (.inr (.inr (.inr (.inr hb)))),h.wlt⟩
def chain (P:Program)(R:Code→Act→World→Prop)(Rr:Act→World→Prop):Nat→Code→Act→World→Prop
 |0,c,a,w=>R c a w
 |n+1,.seq s c,a,w=>s.wp P (Z4 (fun a w=>chain P R Rr n c a w) Rr) a w
 |_+1,_,_,_=>False
theorem UK {P:Program}{R R':Code→Act→World→Prop}{Rr Rr':Act→World→Prop}:∀ {n:Nat} {c:Code} {a:Act} {w:World},chain P R Rr n c a w→(∀c a w,R c a w→R' c a w)→(∀a w,Rr a w→Rr' a w)→chain P R' Rr' n c a w
 |0,c,a,w,h,h1,_=>h1 c a w h
 |n+1,c,a,w,h,h1,h2=>by
  cases c with
  |seq s c=>
   refine wp_mono (show s.wp P (Z4 (fun a w=>chain P R Rr n c a w) Rr) a w from h) fun e a w hq=>?_
   cases e with
   |normal=>exact UK hq h1 h2
   |ret=>exact h2 a w hq
   |_=>exact hq.elim
  |_=>exact h.elim
theorem Pv {P:Program}{R:Code→Act→World→Prop}{Rr:Act→World→Prop}{b:Frame}{k:List Item}{cs:List Frame}:∀(n:Nat) (c:Code) (a:Act) (w:World),chain P R Rr n c a w→
 (∃c' a' w',Steps P (lone (b.at a (.code c::k)) cs w) (lone (b.at a' (.code c'::k)) cs w')∧R c' a' w')∨∃a' todo w',Steps P (lone (b.at a (.code c::k)) cs w) (lone {b.at a' todo with mode:=.returning} cs w')∧Rr a' w'
 |0,c,a,w,h=>.inl ⟨c,a,w,Steps.refl _ _,h⟩
 |n+1,c,a,w,h=>by
  cases c with
  |seq s c=>
   have h1:Steps P (lone (b.at a (.code (.seq s c)::k)) cs w) (lone (b.at a (.code s:: .code c::k)) cs w):=.one step_seq
   obtain⟨e,a',w',hq,ha⟩:=(show s.wp P (Z4 (fun a w=>chain P R Rr n c a w) Rr) a w from h) b (.code c::k) cs
   cases e with
   |normal=>
    rcases Pv n c a' w' hq with⟨c',a2,w2,h3,h4⟩|⟨a2,todo,w2,h3,h4⟩
    ·exact .inl ⟨c',a2,w2,(h1.trans ha).trans h3,h4⟩
    ·exact .inr ⟨a2,todo,w2,(h1.trans ha).trans h3,h4⟩
   |ret=>
    obtain⟨todo,hst⟩:=ha
    exact .inr ⟨a',todo,w',h1.trans hst,hq⟩
   |_=>exact hq.elim
  |_=>exact h.elim
theorem Qbm {P:Program}{R:Code→Act→World→Prop}{Rr:Act→World→Prop}{m:Nat}:∀ {n:Nat} {c:Code} {a:Act} {w:World},chain P (fun c a w=>chain P R Rr m c a w) Rr n c a w→chain P R Rr (m+n) c a w
 |0,_,_,_,h=>h
 |n+1,c,a,w,h=>by
  cases c with
  |seq s c=>
   refine wp_mono (show s.wp P (Z4 (fun a w=>chain P (fun c a w=>chain P R Rr m c a w) Rr n c a w) Rr) a w from h) fun e a w hq=>?_
   cases e with
   |normal=>exact Qbm hq
   |ret=>exact hq
   |_=>exact hq.elim
  |_=>exact h.elim
end Co
namespace Co
open Go.Conc
def Rds {α:Type}(s:Sem α):Prop:=∀P w,rw (s.run P w)=w
section
variable {α β:Type}
theorem JL (a:α):Rds (pure a:Sem α):=fun _ _=>rfl
theorem VG (h:Halt):Rds (.halt h:Sem α):=fun _ _=>rfl
theorem Jm {s:Sem α}{f:α→Sem β}(hs:Rds s)(hf:∀a,Rds (f a)):Rds (s>>= f):=by
 intro P w
 rw[Sem.run_bind]
 have h:=hs P w
 cases h0:s.run P w with
 |halt x y=>rw[h0]at h;exact h
 |ok a w2=>
  rw[h0]at h
  have e:w2=w:=h
  subst e
  exact hf a P w2
theorem Kb:Rds program:=fun _ _=>rfl
theorem PC (a:Addr)(m:Mode):Rds (load a m):=by
 intro P w
 simp only[load,Sem.run]
 split
 ·rfl
 ·split<;>rfl
theorem Qdi (t:TypeId):Rds (typeInfo t):=by
 unfold typeInfo
 refine Jm Kb fun p=>?_
 split
 ·exact JL _
 ·exact VG _
theorem Qcr (t:TypeId):Rds (underlying t):=by
 unfold underlying
 refine Jm Kb fun p=>?_
 split
 ·exact JL _
 ·exact VG _
theorem Qbr (a:Addr)(n:Nat):∀(i:Nat) (acc:Array Value),Rds (loadCellsFrom a i n acc):=by
 induction n with
 |zero=>intro i acc;exact JL _
 |succ n ih=>intro i acc;exact Jm (PC _ _) fun v=>ih _ _
theorem Qeb (t:TypeId)(a:Addr):Rds (loadVar t a):=by
 unfold loadVar isAgg
 refine Jm (Jm (Qcr _) fun u=>?_) fun b=>?_
 ·split<;>exact JL _
 ·split
  ·exact Jm (Jm (Qdi _) fun _=>JL _) fun _=>Jm (Qbr _ _ _ _) fun _=>JL _
  ·exact PC _ _
theorem Qcx (v:Value):Rds (asAddr v):=by
 unfold asAddr
 split
 ·exact JL _
 ·unfold runtimePanic
  exact Jm Kb fun p=>VG _
 ·exact VG _
theorem QdC {γ δ:Type}(f:γ→Sem δ)(hf:∀x,Rds (f x))(l:Array γ):Rds (l.mapM f):=by
 rw[Array.mapM_eq_mapM_toList]
 show Rds (_>>= fun a=>pure (List.toArray a))
 refine Jm ?_ fun _=>JL _
 generalize l.toList=k
 induction k with
 |nil=>exact JL _
 |cons x l ih=>
  rw[List.mapM_cons]
  exact Jm (hf x) fun _=>Jm ih fun _=>JL _
theorem Om (fn:Func)(tmps:Array Value):Rds (results fn tmps):=by
 unfold results
 refine Jm (QdC _ (fun x=>?_) _) fun _=>JL _
 cases x with
 |tmp t=>exact JL _
 |cell a t=>exact Jm (Qcx _) fun _=>Qeb _ _
end
section
variable {T:Tables} {F F':Array Func} {S:FuncId→Bool} {X:Nat→Bool} {c:Frame} {cs:List Frame}
theorem Qaq (hC:Cut T F F' S){f:FuncId}{args:Array Value}(hS:S f=true){w:World}(hX:XOk X w)(hW:WOk (LOk T S) (emW X w)){R:Value→World→Prop}
 (H:∀t d,Calls (PP T F') f args {emW X w with tape:=t,drawn:=d} fun e w1=>∃v,e=.returned v∧R v w1):
 Way (PP T F) X (fun g w1=>∃v w1',g=G (c.finish v) cs∧Em X w1 w1'∧XOk X w1∧WOk (LOk T S) w1'∧Qy X w w1∧w1.tape=w.tape∧R v w1') (G (Frame.enter (PP T F) f args .normal) (c::cs)) w:=by
 obtain⟨hf,he⟩:=PA (X:=X) (args:=args) hC hS
 have h1:Way (PP T F) X (fun g w1=>∃fr1 v w1',g=G fr1 (c::cs)∧FOk T S X fr1∧fr1.leaving (PP T F') w1' (.returned v)∧Em X w1 w1'∧XOk X w1∧WOk (LOk T S) w1'∧Qy X w w1∧w1.tape=w.tape∧R v w1') (G (Frame.enter (PP T F) f args .normal) ([]++(c::cs))) w:=by
  refine Oj (mid:=[]) hC hf (.inl rfl) (fun x hx=>by cases hx) hX hW fun t d=>?_
  obtain⟨e,w1',fr1,⟨v,rfl,hR⟩,hs,hfn,hl⟩:=H t d [c0]
  rw[he]at hs
  refine⟨fr1,[],w1',hs,.inr hl.1,fun w1 k1 _ k3 k4 k5 k6 k7=>⟨fr1,v,w1',rfl,k1,hl,k3,k4,k5,k6,k7,hR⟩⟩
 refine Qhm h1 fun g w1 ⟨fr1,v,w1',hg,k1,⟨hm,hd,hk,fn,hfn,hres⟩,k3,k4,k5,k6,k7,hR⟩=>?_
 subst hg
 have hfn2:(PP T F).funcs[fr1.fn]? =some fn:=(hC.of.same fr1.fn k1.fn).symm.trans hfn
 have key:∀d,∃es,stepG (PP T F) true (G fr1 (c::cs)) (w1.at d)=.go (G (c.finish v) cs) (w1.at d) es∧w1.heap.size≤(w1.at d).heap.size∧∀B,(w1.at d).heap.size≤B→∀e∈es,Ev X B e:=by
  intro d
  have hrd:=Om fn fr1.tmps (PP T F) (w1.at d)
  obtain⟨ok,_⟩:=(V5 (F:=F) (F':=F') (S:=S) (X:=X) fn fr1.tmps).tr (w1.at d) w1' ⟨k3.heap,k3.size,k3.os,k3.out⟩ ⟨k4.lt,k4.ob⟩ k5 (fun k hk=>by rw[hrd]at hk;omega)
  obtain⟨w2,e1,_,_,_,_,_,e7⟩:=ok v w1' hres
  rw[e1]at hrd
  have e2:w2=w1.at d:=hrd
  subst e2
  refine⟨seen (PP T F) fr1.fn ((results fn fr1.tmps).events (PP T F) (w1.at d) #[])++ #[],?_,Nat.le_refl _,fun B hB e he=>?_⟩
  ·have e3:stepG (PP T F) true (G fr1 (c::cs)) (w1.at d)=unwind (PP T F) true fr1 (c::cs) none (w1.at d):=by simp[stepG,G,hm]
   rw[e3]
   unfold unwind
   rw[hd,hm]
   simp only[hfn2,Sem.runT_eq,e1,doReturn,hk,GStep.after]
   rfl
  ·exact e7 B hB #[] (fun e he=>by simp at he) e (mem_seen (by simpa using he))
 refine QcM (fun w=>w) rfl key fun d=>.stop ⟨v,w1',rfl,⟨k3.heap,k3.size,k3.os,k3.out⟩,⟨k4.lt,k4.ob⟩,k5,⟨k6.size,k6.ob⟩,k7,hR⟩
end
end Co
namespace Co
open Go.Conc Go.ConcN Go.RowKit
def ShB (SB:Nat→Prop)(l:Loc):Prop:=∃a,l=.cell a∧SB a.block
structure TrI (SB:Nat→Prop) (ng n:Nat) (t:Trace):Prop where
 quiet:Quiet (ShB SB) t
 seen:∀i a,touchAt t i=some a→a.loc.low n∧a.loc.isMemory=true
 gs:∀(i:Nat) (op:MemOp),t[i]? =some op→op.g<ng
theorem Qb9 {X:Nat→Bool}{SB:Nat→Prop}(hS:∀b,SB b→X b=true){ng n n':Nat}{t:Trace}{es:Array Event}{fn:FuncId}{pos:String}(h0:0<ng)(hn:n≤n')(h:TrI SB ng n t)(he:∀e∈es,Ev X n' e):TrI SB ng n' (t++MemOp.ofEvents 0 fn pos es):=by
 have touch:∀e∈es,∀x,(MemAct.ofEvent e).touch? =some x→(∃a,x.loc=.cell a∧X a.block=false∧a.block<n')∨∃r,x.loc=.obj r∧r<n':=by
  intro e hm x hx
  have hv:=he e hm
  obtain⟨loc,wr,sy⟩:=e
  unfold Ev at hv
  cases loc with
  |cell a=>
   simp only[ofEvent_cell0,MemAct.touch?,Option.some.injEq]at hx
   subst hx
   exact .inl ⟨a,rfl,hv.1,hv.2⟩
  |obj r=>
   have hl:x.loc=.obj r:=by
    cases wr<;>cases sy<;>simp[MemAct.ofEvent,MemAct.touch?]at hx<;>subst hx<;>rfl
   exact .inr ⟨r,hl,hv⟩
  |mark m=>
   have hm':m=.noRoom:=hv
   subst hm'
   cases hx
  |_=>exact hv.elim
 refine⟨h.quiet.app fun op hop x hx hs=>?_,fun i a ha=>?_,fun i op hi=>?_⟩
 ·obtain⟨e,hm,rfl⟩:=Go.Conc.mem_ofEvents hop
  obtain⟨c,h1,h2⟩:=hs
  rcases touch e hm x hx with⟨a,h3,h4,_⟩|⟨r,h3,_⟩
  ·rw[h3]at h1;cases h1;rw[hS _ h2]at h4;cases h4
  ·rw[h3]at h1;cases h1
 ·obtain⟨x,hx,hxa⟩:=touch_of ha
  rcases getElem?_append_cases hx with⟨_,hx'⟩|⟨_,hxu⟩
  ·have:=h.seen i a (by rw[touchAt_of hx'];exact hxa)
   exact⟨Loc.low_mono hn this.1,this.2⟩
  ·obtain⟨e,hm,rfl⟩:=Go.Conc.mem_ofEvents hxu
   rcases touch e hm a hxa with⟨c,h3,_,h5⟩|⟨r,h3,h5⟩<;>rw[h3]<;>exact⟨h5,rfl⟩
 ·rcases getElem?_append_cases hi with⟨_,hi'⟩|⟨_,hiu⟩
  ·exact h.gs i op hi'
  ·obtain⟨e,_,rfl⟩:=Go.Conc.mem_ofEvents hiu;exact h0
theorem Qab {SB:Nat→Prop}{ng n:Nat}{t u:Trace}(h:TrI SB ng n t)(hu:∀op∈u,op.g<ng∧op.act.touch? =none):TrI SB ng n (t++u):=by
 refine⟨h.quiet.app fun op hop x hx hs=>(by rw[(hu op hop).2]at hx;cases hx),fun i a ha=>?_,fun i op hi=>?_⟩
 ·obtain⟨x,hx,hxa⟩:=touch_of ha
  rcases getElem?_append_cases hx with⟨_,hx'⟩|⟨_,hxu⟩
  ·exact h.seen i a (by rw[touchAt_of hx'];exact hxa)
  ·rw[(hu x hxu).2]at hxa;cases hxa
 ·rcases getElem?_append_cases hi with⟨_,hi'⟩|⟨_,hiu⟩
  ·exact h.gs i op hi'
  ·exact(hu op hiu).1
structure Bt (X:Nat→Bool) (SB:Nat→Prop) (gs:Array Goroutine) (w:World) (t:Trace):Prop where
 lv:∃q,Leavers Tryz.prog t gs q
 past:∃B,Past (ShB SB) B t
 tri:TrI SB gs.size w.heap.size t
 sbx:∀b,SB b→X b=true
theorem JS {X:Nat→Bool}{Ch:Nat}{SB:Nat→Prop}{Fin:Goroutine→World→Prop}{gs:Array Goroutine}{a:Goroutine}{w:World}{t:Trace}(h:Bt X SB gs w t)(h0:gs[0]? =some a)(hw:Qt Tryz.prog X Ch Fin a w)(sl:Option (Nat×Nat)):
 ∃N gs' a' w' sl' t',runNT Tryz.prog N (crowd gs w sl) t=(.next (crowd gs' w' sl'),t')∧gs'.size=gs.size∧gs'[0]? =some a'∧Fin a' w'∧Bt X SB gs' w' t':=by
 obtain⟨q,hq⟩:=h.lv
 obtain⟨B,hB⟩:=h.past
 have hpos:0<gs.size:=(Array.getElem?_eq_some_iff.1 h0).1
 obtain⟨N,gs',a',w',sl',t',q',B',h1,h2,h3,h4,h5,h6,h7⟩:=Qd6 (Shun:=ShB SB) (fun l ⟨a,h1,h2⟩=>⟨a,h1,h.sbx _ h2⟩) (TrI SB gs.size) (fun n n' t es fn pos hn hI he=>Qb9 h.sbx hpos hn hI he)
  (fun n t u hI hu=>Qab hI fun op hop=>⟨by rw[(hu op hop).1];exact hpos,(hu op hop).2⟩) gs.size (fun n t g es fn pos hI hg hlt hm=>Qab hI fun op hop=>by obtain⟨e,he,rfl⟩:=Go.Conc.mem_ofEvents hop;exact⟨hlt,touch_mute (hm e he)⟩) hw gs sl t q B rfl h0 hq hB h.tri
 exact⟨N,gs',a',w',sl',t',h1,h2,h3,h4,⟨_,h5⟩,⟨_,h6⟩,by rw[h2];exact h7,h.sbx⟩
structure Sn (X:Nat→Bool) (w:World):Prop where
 xok:XOk X w
 wok:WOk (LOk Tryz.progTables Cut.keep) (emW X w)
theorem Q6 (X:Nat→Bool)(w:World)(r:Nat):(emW X w).heap[r]? =(w.heap[r]?).map (emO X r):=(VB X w w.tape w.drawn).heap r
theorem QD (X:Nat→Bool)(w:World):(emW X w).heap.size=w.heap.size:=(VB X w w.tape w.drawn).size
theorem VQ {X:Nat→Bool}{r:Nat}(h:X r=false)(o:Obj):emO X r o=o:=by unfold emO;simp[h]
theorem Z6 {X:Nat→Bool}{w:World}{r:Nat}(h:X r=false):(emW X w).heap[r]? =w.heap[r]? :=by
 rw[Q6]
 cases w.heap[r]? with
 |none=>rfl
 |some o=>simp[VQ h]
theorem Sn.at {X:Nat→Bool}{w:World}(h:Sn X w)(d:Nat):Sn X (w.at d):=⟨⟨h.xok.lt,h.xok.ob⟩,h.wok⟩
theorem Sn.out {X:Nat→Bool}{w:World}(h:Sn X w){r:Nat}(hr:w.heap.size≤r):X r=false:=by
 cases hx:X r with
 |false=>rfl
 |true=>have:=h.xok.lt r hx;omega
theorem Sn.turn {X:Nat→Bool}{w w':World}(h:Sn X w)(hs:w.heap.size≤w'.heap.size)(hx:∀r,X r=true→w'.heap[r]? =w.heap[r]?)(ho:∀r o,X r=false→w'.heap[r]? =some o→w.heap[r]? =some o∨(∃c e f,o=.cells c e f)∨∃a b c d e f,o=.chan a b c d e f):Sn X w':=by
 refine⟨⟨fun r hr=>Nat.lt_of_lt_of_le (h.xok.lt r hr) hs,fun r o hr he=>h.xok.ob r o hr ((hx r hr)▸he)⟩,fun r o he=>?_⟩
 cases hr:X r with
 |true=>
  rw[Q6,hx r hr,←Q6]at he
  exact h.wok r o he
 |false=>
  rw[Z6 hr]at he
  rcases ho r o hr he with h1|⟨c,e,f,rfl⟩|⟨a,b,c,d,e,f,rfl⟩
  ·exact h.wok r o (by rw[Z6 hr];exact h1)
  ·trivial
  ·trivial
theorem QcI {X:Nat→Bool}{w w1 w1' u:World}(hu:u.heap=(emW X w).heap)(hE:Em X w1 w1')(hK:Qy X w w1)(hB:Below u.heap.size u w1'){b:Nat}(hb:b<w.heap.size):w1.heap[b]? =w.heap[b]? :=by
 cases hx:X b with
 |true=>exact hK.ob b hx
 |false=>
  have h1:=hE.heap b
  have h2:=hB.block b (by rw[hu,QD];exact hb)
  rw[hu,Z6 hx]at h2
  rw[h2]at h1
  rw[←h1.symm]at h2
  cases h3:w1.heap[b]? with
  |none=>
   rw[h3]at h1
   rw[h1]
   rfl
  |some o=>
   rw[h3]at h1
   simp only[Option.map_some,VQ hx]at h1
   exact h1.symm
theorem JN {X:Nat→Bool}{w1 w1':World}(hE:Em X w1 w1'){b:Nat}(hx:X b=false):w1.heap[b]? =w1'.heap[b]? :=by
 rw[hE.heap b]
 cases w1.heap[b]? with
 |none=>rfl
 |some o=>simp[VQ hx]
theorem Pa {X:Nat→Bool}{Ch:Nat}{Fin:Goroutine→World→Prop}{f:FuncId}{args:Array Value}{c:Frame}{cs:List Frame}{w:World}(hk:Cut.keep f=true)(hs:Sn X w){R:Value→World→Prop}
 (H:∀t d,Calls Cut.prog f args {emW X w with tape:=t,drawn:=d} fun e w1=>∃v,e=.returned v∧R v w1∧Below w.heap.size {emW X w with tape:=t,drawn:=d} w1)
 (K:∀v w1 w1',Em X w1 w1'→Sn X w1→(∀b,b<w.heap.size→w1.heap[b]? =w.heap[b]?)→w.heap.size≤w1.heap.size→OO w1 w→R v w1'→Qt Tryz.prog X Ch Fin (G (c.finish v) cs) w1):
 Qt Tryz.prog X Ch Fin (G (Frame.enter Tryz.prog f args .normal) (c::cs)) w:=by
 have h1:=Qaq (c:=c) (cs:=cs) Cut.cut hk hs.xok hs.wok (R:=fun v w1=>R v w1∧∃t d,Below w.heap.size {emW X w with tape:=t,drawn:=d} w1) (fun t d=>(H t d).mono fun e w1 ⟨v,he,hR,hB⟩=>⟨v,he,hR,t,d,hB⟩)
 refine Kd h1 ?_
 rintro g w1 ⟨v,w1',rfl,hE,hX,hW,hKp,_,hR,t,d,hB⟩
 refine K v w1 w1' hE ⟨hX,fun r o ho=>hW r o ?_⟩ (fun b hb=>QcI (u:={emW X w with tape:=t,drawn:=d}) rfl hE hKp (by rw[show({emW X w with tape:=t,drawn:=d}:World).heap.size=w.heap.size from QD X w];exact hB) hb) hKp.size ⟨hE.os.symm.trans hB.os,hE.out.symm.trans hB.output⟩ hR
 rw[hE.heap r,←Q6]
 exact ho
end Co
namespace Co
open Go.Conc Go.ConcN
open Go.ConcR (KK wgBlock WgAt stA smA rd wr mk Payload Aside2 DC0 Bk g_of_ofEvents again_blocked)
/-! ### a phase:goroutine 0 starts tellers,and joins them-/
structure Ph where
 P:Program
 ty:TypeId
 Wg:Nat
 Ch:Nat
 Low:Nat
 m0:Nat
 n0:Nat
 SB:Nat→Prop
structure RK (S:Ph) (own:List Nat) (w w1:World):Prop where
 low:∀b,b<S.Low→b≠S.Wg→b≠S.Ch→w1.heap[b]? =w.heap[b]?
 own:∀b,b∈own→w1.heap[b]? =w.heap[b]?
 live:WgLive S.ty S.Wg w→WgLive S.ty S.Wg w1
 oo:OO w1 w
theorem RK.refl (S:Ph)(own:List Nat)(w:World):RK S own w w:=⟨fun _ _ _ _=>rfl,fun _ _=>rfl,id,.refl _⟩
theorem RK.trans {S:Ph}{own:List Nat}{a b c:World}(h:RK S own a b)(k:RK S own b c):RK S own a c:=
 ⟨fun x h1 h2 h3=>(k.low x h1 h2 h3).trans (h.low x h1 h2 h3),fun x hx=>(k.own x hx).trans (h.own x hx),k.live∘h.live,k.oo.trans h.oo⟩
theorem RK.at (S:Ph)(own:List Nat)(w:World)(d:Nat):RK S own w (w.at d):=⟨fun _ _ _ _=>rfl,fun _ _=>rfl,id,⟨rfl,rfl⟩⟩
theorem RK.mono {S:Ph}{own own':List Nat}{a b:World}(h:RK S own a b)(hs:∀x,x∈own'→x∈own):RK S own' a b:=⟨h.low,fun x hx=>h.own x (hs x hx),h.live,h.oo⟩
theorem RK.rl {S:Ph}{own:List Nat}{a b:World}(h:RK S own a b):RL S.ty S.Wg a b:=h.live
def EvK (S:Ph)(own:List Nat)(e:Event):Prop:=∃a wr,e=⟨.cell a,wr,false⟩∧¬S.SB a.block∧(a.block∈own∨(a.block<S.Low∧wr=false))
structure Zc (own own':List Nat) (w w':World):Prop where
 same:∀b,b<w.heap.size→b∉own→w'.heap[b]? =w.heap[b]?
 grow:(own'=own∧w'.heap.size=w.heap.size)∨(own'=w.heap.size::own∧w'.heap.size=w.heap.size+1)
 oo:OO w' w
theorem Zc.refl (own:List Nat)(w:World):Zc own own w w:=⟨fun _ _ _=>rfl,.inl ⟨rfl,rfl⟩,.refl _⟩
theorem KC {S:Ph}{own:List Nat}:∀a b c,RK S own a b→RK S own b c→RK S own a c:=fun _ _ _ h k=>h.trans k
theorem JV {ty:TypeId}{Wg:Nat}:∀a b c,RL ty Wg a b→RL ty Wg b c→RL ty Wg a c:=fun _ _ _ h k=>k∘h
section
variable [Payload]
def OwC (C:Nat)(_:Nat)(l:Loc):Prop:=∃a,l=.cell a∧a.block=C
def KL (_:Nat)(_:Loc):Prop:=False
def Jt (S:Ph):Nat→List Nat→List Value→Goroutine→World→Prop
 |0,own,left,g,w=>left=[]∧∃C val m,C∈own∧Goes S.P false (RW S.ty S.Wg C 1 0 0) (DWs S.Wg (OwC C) KL C 1 1) (AtR0 S.P S.ty S.Wg C 1 0 1 val) m g w
 |s+1,own,left,g,w=>∃m,Goes S.P false (RK S own) DC0 (fun g w=>g.status=.running∧
   ((stepG S.P false g w).goes (fun g' w' es=>∃own',Zc own own' w w'∧(∀e∈es,EvK S own' e)∧Jt S s own' left g' w')∨
    ∃v left' g2 z shape,left=v::left'∧stepG S.P false g w=.comm g2 #[scase S.Ch v z] true shape w #[]∧Jt S s own left' (g2.finishComm S.P #[scase S.Ch v z] shape 0 undef false) w)) m g w
def Uh (S:Ph)(s:Nat)(own:List Nat)(left:List Value)(g:Goroutine)(w:World):Prop:=g.status=.running∧
     ((stepG S.P false g w).goes (fun g' w' es=>∃own',Zc own own' w w'∧(∀e∈es,EvK S own' e)∧Jt S s own' left g' w')∨
      ∃v left' g2 z shape,left=v::left'∧stepG S.P false g w=.comm g2 #[scase S.Ch v z] true shape w #[]∧Jt S s own left' (g2.finishComm S.P #[scase S.Ch v z] shape 0 undef false) w)
theorem Jf (S:Ph)(s:Nat)(own:List Nat)(left:List Value)(g:Goroutine)(w:World):Jt S (s+1) own left g w=∃m,Goes S.P false (RK S own) DC0 (Uh S s own left) m g w:=rfl
def JH (S:Ph)(Anch:Goroutine→World→Prop):Nat→Nat→List Nat→List (List Value)→Nat→Nat→Goroutine→World→Prop
 |0,_,_,rest,pend,d,g,w=>rest=[]∧pend=0∧d=0∧Sil S.P S.ty S.Wg (ZL S.P .disable (Sil S.P S.ty S.Wg Anch)) g w
 |s+1,bd,own,rest,pend,d,g,w=>∃m,Goes S.P true (RK S own) DC0 (fun g w=>g.status=.running∧
   ((stepG S.P true g w).goes (fun g' w' es=>∃own',Zc own own' w w'∧(∀e∈es,EvK S own' e)∧JH S Anch s bd own' rest pend d g' w')∨
    (∃x g',(x=.disable∨x=.enable∨x=.read (smA S.Wg))∧stepG S.P true g w=.go g' w #[mk x]∧JH S Anch s bd own rest pend (deafBehind d #[mk x]) g' w)∨
    (pend=0∧∀v:Nat,v<1000000→WgAt S.ty S.Wg w (v*KK) 0→∃g',stepG S.P true g w=.go g' (w.setCell (stA S.Wg) (.int .u64 ((v+1:Nat)*KK))) #[rd (stA S.Wg),wr (stA S.Wg)]∧
      JH S Anch s bd own rest 1 d g' (w.setCell (stA S.Wg) (.int .u64 ((v+1:Nat)*KK))))∨
    (d=0∧pend=1∧∃g' child bs own' l rest' sW bd',rest=l::rest'∧bd=bd'+(sW+8)∧(∀x,x∈bs→x∈own)∧(∀x,x∈own'→x∈own)∧(∀x,x∈bs→x∉own')∧
      stepG S.P true g w=.spawn g' child w #[]∧Jt S sW bs l child w∧JH S Anch s bd' own' rest' 0 0 g' w))) m g w
def YC (S:Ph)(Anch:Goroutine→World→Prop)(s bd:Nat)(own:List Nat)(rest:List (List Value))(pend d:Nat)(g:Goroutine)(w:World):Prop:=g.status=.running∧
     ((stepG S.P true g w).goes (fun g' w' es=>∃own',Zc own own' w w'∧(∀e∈es,EvK S own' e)∧JH S Anch s bd own' rest pend d g' w')∨
      (∃x g',(x=.disable∨x=.enable∨x=.read (smA S.Wg))∧stepG S.P true g w=.go g' w #[mk x]∧JH S Anch s bd own rest pend (deafBehind d #[mk x]) g' w)∨
      (pend=0∧∀v:Nat,v<1000000→WgAt S.ty S.Wg w (v*KK) 0→∃g',stepG S.P true g w=.go g' (w.setCell (stA S.Wg) (.int .u64 ((v+1:Nat)*KK))) #[rd (stA S.Wg),wr (stA S.Wg)]∧
        JH S Anch s bd own rest 1 d g' (w.setCell (stA S.Wg) (.int .u64 ((v+1:Nat)*KK))))∨
      (d=0∧pend=1∧∃g' child bs own' l rest' sW bd',rest=l::rest'∧bd=bd'+(sW+8)∧(∀x,x∈bs→x∈own)∧(∀x,x∈own'→x∈own)∧(∀x,x∈bs→x∉own')∧
        stepG S.P true g w=.spawn g' child w #[]∧Jt S sW bs l child w∧JH S Anch s bd' own' rest' 0 0 g' w))
theorem ZY (S:Ph)(Anch:Goroutine→World→Prop)(s bd:Nat)(own:List Nat)(rest:List (List Value))(pend d:Nat)(g:Goroutine)(w:World):
 JH S Anch (s+1) bd own rest pend d g w=∃m,Goes S.P true (RK S own) DC0 (YC S Anch s bd own rest pend d) m g w:=rfl
theorem YM {S:Ph}{own:List Nat}{C:Nat}(hC:C∈own){w w1:World}(h:RK S own w w1):RW S.ty S.Wg C 1 0 0 w w1:=
 ⟨fun b hb=>absurd hb (Nat.not_lt_zero b),h.live,fun⟨cs,hc,hn⟩=>⟨cs,(h.own C hC).trans hc,hn⟩,cell_of_block (h.own C hC) 0⟩
theorem YO {ty:TypeId}{Wg C:Nat}:∀a b c,RW ty Wg C 1 0 0 a b→RW ty Wg C 1 0 0 b c→RW ty Wg C 1 0 0 a c:=fun _ _ _ h k=>h.trans k
theorem Jt.rely {S:Ph}{s:Nat}{own:List Nat}{left:List Value}{g:Goroutine}{w w1:World}(h:Jt S s own left g w)(hr:RK S own w w1):Jt S s own left g w1:=by
 cases s with
 |zero=>
  obtain⟨h1,C,val,m,hC,hg⟩:=h
  exact⟨h1,C,val,m,hC,Goes.rely YO hg (YM hC hr)⟩
 |succ s=>
  obtain⟨m,hg⟩:=h
  exact⟨m,Goes.rely KC hg hr⟩
end
end Co
end Go.Proofs.YtcpnkpogebjieaaGreat
