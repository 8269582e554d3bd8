/- The outside world and the output stand as they stood. -/
import Derived.Conc.Beside
import Derived.Conc.CrowdComm
import Derived.Conc.CrowdCom2
import Derived.Test.YtcpnkpogebjieaaGreatS06Zs
import Derived.WalkKit
import Derived.WalkSpells
import Derived.WalkLawsBesides
import Derived.Conc.AppendWalk
import Derived.Conc.WgGenLone
import Derived.Maps.AppendAt
open Go.Value renaming int→QhR
open Nat renaming le_refl→QhS,lt_of_lt_of_le→QhT,zero_add→QhU
open Array renaming getElem?_setIfInBounds_ne→QhV,getElem?_setIfInBounds_self_of_lt→QhW,getElem?_eq_getElem→QhX,getElem?_map→QhZ,length_toList→Qh1,getD_eq_getD_getElem?→Qh4
open List renaming getElem?_cons_zero→QhY,getElem?_eq_getElem→Qh0,getElem?_toArray→Qh2,getElem?_cons_succ→Qh3
set_option maxRecDepth 100000
set_option maxHeartbeats 2000000
namespace Go.Proofs.YtcpnkpogebjieaaGreat
namespace Co
def OO (a b:World):Prop:=a.os=b.os∧a.output=b.output
theorem OO.refl (w:World):OO w w:=⟨rfl,rfl⟩
theorem OO.trans {a b c:World}(h:OO a b)(k:OO b c):OO a c:=⟨h.1.trans k.1,h.2.trans k.2⟩
end Co
namespace Co
open Go.Conc Go.ConcN
inductive Qv (P:Program) (X:Nat→Bool) (Ch:Nat) (Fin:Goroutine→World→Prop):Goroutine→World→Prop
 |stop {g:Goroutine} {w:World}:Fin g w→Qv P X Ch Fin g w
 |step {g:Goroutine} {w:World}:g.status=.running→(∀d,∃g' w' es,stepG P true g (w.at d)=.go g' w' es∧w.heap.size≤w'.heap.size∧∀B,w'.heap.size≤B→∀e∈es,Ev X B e)→(∀d g' w' es,stepG P true g (w.at d)=.go g' w' es→Qv P X Ch Fin g' w')→Qv P X Ch Fin g w
 |buf {g g2:Goroutine} {w:World} {z:Value} {cap s r:Nat} {b:Array Value} {closed tm:Bool}:g.status=.running→(∀d,stepG P true g (w.at d)=.comm g2 #[rcase Ch z] true (.recv true) (w.at d) #[])→w.heap[Ch]? =some (.chan cap b closed s r tm)→0<b.size→
   (∀d,Qv P X Ch Fin (g2.finishComm P #[rcase Ch z] (.recv true) 0 (b.getD 0 undef) true) ((w.at d).setChan Ch cap (b.extract 1 b.size) closed s (r+1) tm))→Qv P X Ch Fin g w
 |shut {g g2:Goroutine} {w:World} {z:Value} {cap s r:Nat} {tm:Bool}:g.status=.running→(∀d,stepG P true g (w.at d)=.comm g2 #[rcase Ch z] true (.recv true) (w.at d) #[])→w.heap[Ch]? =some (.chan cap #[] true s r tm)→
   (∀d,Qv P X Ch Fin (g2.finishComm P #[rcase Ch z] (.recv true) 0 z false) (w.at d))→Qv P X Ch Fin g w
theorem PK {P:Program}{X:Nat→Bool}{Ch:Nat}{Fin Fin':Goroutine→World→Prop}{g:Goroutine}{w:World}(h:Way P X Fin g w)(k:∀g w,Fin g w→Qv P X Ch Fin' g w):Qv P X Ch Fin' g w:=by
 induction h with
 |stop h=>exact k _ _ h
 |step hr h1 _ ih=>exact .step hr h1 ih
def Kh (P:Program)(Fin:Goroutine→World→Prop)(Shun:Loc→Prop)(I:Nat→Trace→Prop)(gs:Array Goroutine)(w:World)(sl:Option (Nat×Nat))(t:Trace):Prop:=
 ∃(N:Nat) (gs':Array Goroutine) (a':Goroutine) (w':World) (sl':Option (Nat×Nat)) (t':Trace) (q':Nat→Nat) (B':Nat),
  runNT P N (crowd gs w sl) t=(.next (crowd gs' w' sl'),t')∧gs'.size=gs.size∧gs'[0]? =some a'∧Fin a' w'∧Leavers P t' gs' q'∧Past Shun B' t'∧I w'.heap.size t'
theorem Kp {P:Program}{Fin:Goroutine→World→Prop}{Shun:Loc→Prop}{I:Nat→Trace→Prop}{n0:Nat}(hIm:∀n t g es fn pos,I n t→g≠0→g<n0→(∀e∈es,Event.mute e=true)→I n (t++MemOp.ofEvents g fn pos es)){a:Goroutine}{w:World}(hrun:a.status=.running)
 (move:∀(d:Nat) (gs:Array Goroutine) (sl:Option (Nat×Nat)) (t:Trace) (q:Nat→Nat) (B:Nat),gs.size=n0→gs[0]? =some a→Leavers P t gs q→Past Shun B t→I w.heap.size t→
   ∃m ops,runT P (crowd gs (w.at d) sl) 0=(.next m,ops)∧∃gs' w' sl',m=crowd gs' w' sl'∧gs'.size=n0∧Kh P Fin Shun I gs' w' sl' (t++ops)):
 ∀(M:Nat) (w0:World) (gs:Array Goroutine) (sl:Option (Nat×Nat)) (t:Trace) (q:Nat→Nat) (B:Nat),(∃d,w0=w.at d)→sumTo gs.size q≤M→gs.size=n0→gs[0]? =some a→Leavers P t gs q→Past Shun B t→I w.heap.size t→Kh P Fin Shun I gs w0 sl t:=by
 intro M
 induction M using Nat.strongRecOn with
 |_ M ihM=>
 rintro w0 gs sl t q B ⟨d0,rfl⟩ hM hn0 h0 hL hP hI
 have haw:∀g∈gs,awake g:=by
  intro g hg;obtain⟨i,hi,rfl⟩:=Array.mem_iff_getElem.1 hg;rcases Nat.eq_zero_or_pos i with rfl|hpos
  ·have:gs[0]=a:=by simpa[QhX hi]using h0
   rw[this];exact awake_of (.inl hrun)
  ·exact awake_of ((hL.old i _ hpos (QhX hi)).status.elim .inl fun x=>.inr (.inr x))
 obtain⟨i,g,d,sl',hi,hg,hst⟩:=crowd_pick (P:=P) (w:=w.at d0) (sl:=sl) haw ⟨0,a,h0,hrun⟩;rcases Nat.eq_zero_or_pos i with rfl|hpos
 ·obtain⟨m,ops,hr,gs',w',sl'',rfl,hsz,N,gs2,a2,w2,sl2,t2,q2,B2,hr2,hs2,h02,hF,hL2,hP2,hI2⟩:=move d gs sl' t q B hn0 h0 hL hP hI;have hst':stepT P (crowd gs (w.at d0) sl)=(.next (crowd gs' w' sl''),ops):=hst.trans hr;exact⟨N+1,gs2,a2,w2,sl2,t2,q2,B2,by simp only[runNT,hst'];exact hr2,by omega,h02,hF,hL2,hP2,hI2⟩
 ·have hq:=hL.old i g hpos hi;have hi0:(i ==0)=false:=by simp;omega
  have hlt:i<gs.size:=(Array.getElem?_eq_some_iff.1 hi).1
  cases hqi:q i with
  |zero=>rw[hqi]at hq;rw[hq.1]at hg;cases hg
  |succ k=>
   rw[hqi]at hq;rcases hq with⟨hf,_⟩|⟨_,g',es,hm,hstp,hq'⟩
   ·rw[hf]at hg;cases hg
   have hrunT:=runT_crowd_go (P:=P) (sl:=sl') (i:=i) hi (by rw[hi0];exact hstp ((w.at d0).at d));have hsz:((gs.map (woken P g g' ((w.at d0).at d))).setIfInBounds i g').size=gs.size:=by simp
   have hsum:sumTo gs.size (upd q i k)+(k+1)=sumTo gs.size q+k:=by
    have:=sumTo_upd q k id hlt;simpa[hqi]using this
   obtain⟨N,gs',a'',w'',sl'',t',q',B',hr,hs',h0',hF,hL',hP',hI'⟩:=ihM (sumTo gs.size (upd q i k)) (by omega) ((w.at d0).at d) ((gs.map (woken P g g' ((w.at d0).at d))).setIfInBounds i g') sl' (t++MemOp.ofEvents i g.frame.fn g.frame.place es) (upd q i k) B ⟨d,rfl⟩ (by rw[hsz];exact QhS _) (hsz.trans hn0)
    (by
      have hne:i≠0:=by omega
      rw[QhV hne,QhZ,h0]
      simp[woken_run hrun])
    ⟨fun j x hj hx=>by
      by_cases hji:i=j
      ·subst hji;rw[QhW (by simpa using hlt)]at hx;obtain rfl:=Option.some.inj hx;rw[upd_same,Deaf_own];exact hq'
      ·rw[QhV hji,QhZ]at hx;obtain⟨y,hy,rfl⟩:=Option.map_eq_some_iff.1 hx;have hqj:=hL.old j y hj hy;rw[woken_quitsD hqj,upd_ne q k (Ne.symm hji),Deaf_other t hji _ (fun op hop=>by obtain⟨e,_,rfl⟩:=Go.Conc.mem_ofEvents hop;rfl)]
       exact hqj,fun j hj=>by
      rw[Deaf_other t (g':=i) (by simp at hj;omega) _ (fun op hop=>by obtain⟨e,_,rfl⟩:=Go.Conc.mem_ofEvents hop;rfl)]
      exact hL.above j (by simpa using hj)⟩
    (hP.mute (by omega) hm) (hIm _ t i es _ _ hI (by omega) (by omega) hm)
   exact⟨N+1,gs',a'',w'',sl'',t',q',B',by simp only[runNT,hst,hrunT];exact hr,hs'.trans hsz,h0',hF,hL',hP',hI'⟩
theorem QaD {Shun:Loc→Prop}{B Ch:Nat}{t u:Trace}(h:Past Shun B t)(hu:∀op∈u,op.g=0∧op.act.touch? =none∧op.act.low (Ch+1)∧op.act≠.mark .disable∧op.act≠.mark .enable):Past Shun (B+Ch+1) (t++u):=
 (h.mono (show B≤B+Ch+1 by omega)).app0 (fun op hop=>(hu op hop).1) (fun op hop b hb=>by rw[(hu op hop).2.1]at hb;cases hb) (Deaf_still t 0 u fun op hop=>(hu op hop).2.2.2) (fun op hop=>MemAct.low_mono (by omega) (hu op hop).2.2.1)
theorem Qaj {P:Program}{t u:Trace}{gs:Array Goroutine}{q:Nat→Nat}(h:Leavers P t gs q)(hu:∀op∈u,op.g=0∧op.act.touch? =none∧op.act≠.mark .disable∧op.act≠.mark .enable)(a':Goroutine):Leavers P (t++u) (gs.setIfInBounds 0 a') q:=
 ⟨fun j x hj hx=>by
   rw[QhV (by omega)]at hx;rw[Deaf_still t j u fun op hop=>(hu op hop).2.2]
   exact h.old j x hj hx,fun j hj=>by rw[Deaf_still t j u fun op hop=>(hu op hop).2.2];exact h.above j (by simpa using hj)⟩
theorem QaC {P:Program}{t:Trace}{gs:Array Goroutine}{q:Nat→Nat}(h:Leavers P t gs q)(c:Nat)(send:Bool)(h0:0<gs.size):partners (gs.setIfInBounds 0 ph) c send=[]:=by
 refine partners_nil fun k x hx=>?_;by_cases e:0=k
 ·subst e;rw[QhW h0]at hx
  cases hx
  rfl
 ·rw[QhV e]at hx;rcases(h.old k x (by omega) hx).status with h1|h1<;>simp[offersAt,h1]
section
variable {P:Program} {X:Nat→Bool} {Ch:Nat} {Fin:Goroutine→World→Prop} {Shun:Loc→Prop}
theorem QhF (hS:∀l,Shun l→∃a,l=.cell a∧X a.block=true)(I:Nat→Trace→Prop)(hI0:∀n n' t es fn pos,n≤n'→I n t→(∀e∈es,Ev X n' e)→I n' (t++MemOp.ofEvents 0 fn pos es))(hIc:∀n t u,I n t→(∀op∈u,op.g=0∧op.act.touch? =none)→I n (t++u))(n0:Nat)
 (hIm:∀n t g es fn pos,I n t→g≠0→g<n0→(∀e∈es,Event.mute e=true)→I n (t++MemOp.ofEvents g fn pos es)){a:Goroutine}{w:World}(h:Qv P X Ch Fin a w):
 ∀(gs:Array Goroutine) (sl:Option (Nat×Nat)) (t:Trace) (q:Nat→Nat) (B:Nat),gs.size=n0→gs[0]? =some a→Leavers P t gs q→Past Shun B t→I w.heap.size t→Kh P Fin Shun I gs w sl t:=by
 induction h with
 |stop hf=>intro gs sl t q B _ h0 hL hP hI;exact⟨0,gs,_,_,sl,t,q,B,rfl,rfl,h0,hf,hL,hP,hI⟩
 | @step a w hrun h1 h2 ih=>
   intro gs sl t q B hn0 h0 hL hP hI;refine Kp hIm hrun (fun d gs sl t q B hn0 h0 hL hP hI=>?_) (sumTo gs.size q) w gs sl t q B ⟨w.drawn,rfl⟩ (QhS _) hn0 h0 hL hP hI;obtain⟨a1,w1,es,hgo,hsw,hev⟩:=h1 d;have hrunT:=runT_crowd_go (P:=P) (sl:=sl) (i:=0) h0 (show stepG P (0 ==0) a (w.at d)=_ from hgo);have hsz:((gs.map (woken P a a1 w1)).setIfInBounds 0 a1).size=gs.size:=by simp
   have hlt:0<gs.size:=(Array.getElem?_eq_some_iff.1 h0).1;have hB:Past Shun (B+w1.heap.size) t:=hP.mono (Nat.le_add_right _ _);refine⟨_,_,hrunT,_,_,_,rfl,hsz.trans hn0,ih d a1 w1 es hgo _ _ _ q (B+w1.heap.size) (hsz.trans hn0) (by simp[hlt]) ⟨fun j x hj hx=>?_,fun j hj=>?_⟩ (hB.own fun e he=>Qd5 hS (hev (B+w1.heap.size) (Nat.le_add_left _ _) e he)) (hI0 w.heap.size w1.heap.size t es _ _ hsw hI fun e he=>hev w1.heap.size (QhS _) e he)⟩
   ·have hne:0≠j:=by omega
    rw[QhV hne,QhZ]at hx;obtain⟨y,hy,rfl⟩:=Option.map_eq_some_iff.1 hx;have hq:=hL.old j y hj hy;rw[woken_quitsD hq,Deaf_other t (by omega) _ (fun op hop=>by obtain⟨e,_,rfl⟩:=Go.Conc.mem_ofEvents hop;rfl)];exact hq
   ·rw[Deaf_other t (g':=0) (by simp at hj;omega) _ (fun op hop=>by obtain⟨e,_,rfl⟩:=Go.Conc.mem_ofEvents hop;rfl)];exact hL.above j (by simpa using hj)
 | @buf a g2 w z cap s r b closed tm hrun h1 hc hb h2 ih=>
   intro gs sl t q B hn0 h0 hL hP hI;refine Kp hIm hrun (fun d gs sl t q B hn0 h0 hL hP hI=>?_) (sumTo gs.size q) w gs sl t q B ⟨w.drawn,rfl⟩ (QhS _) hn0 h0 hL hP hI;have hlt:0<gs.size:=(Array.getElem?_eq_some_iff.1 h0).1;have hrunT:=crowd_recv_buf (P:=P) (sl:=sl) (i:=0) h0 (show stepG P (0 ==0) a (w.at d)=_ from h1 d) hc hb (QaC hL Ch true hlt)
   have hu:∀op∈(MemOp.ofEvents 0 a.frame.fn a.frame.place #[]++ #[{g:=0,fn:=g2.frame.fn,pos:=g2.frame.place,act:=.recv Ch r cap},{g:=0,fn:=g2.frame.fn,pos:=g2.frame.place,act:=.recvDone Ch r}]:Trace),op.g=0∧(op.act=.recv Ch r cap∨op.act=.recvDone Ch r):=by
    intro op hop;rw[ofEvents_eq]at hop;simp at hop;rcases hop with rfl|rfl
    ·exact⟨rfl,.inl rfl⟩
    ·exact⟨rfl,.inr rfl⟩
   have HU:∀op∈(MemOp.ofEvents 0 a.frame.fn a.frame.place #[]++ #[{g:=0,fn:=g2.frame.fn,pos:=g2.frame.place,act:=.recv Ch r cap},{g:=0,fn:=g2.frame.fn,pos:=g2.frame.place,act:=.recvDone Ch r}]:Trace),op.g=0∧op.act.touch? =none:=fun op hop=>by
    obtain⟨h3,h4|h4⟩:=hu op hop<;>rw[h4]<;>exact⟨h3,rfl⟩
   refine⟨_,_,hrunT,_,_,_,rfl,by simpa using hn0,ih d _ _ _ q (B+Ch+1) (by simpa using hn0) (QhW hlt) (Qaj hL (fun op hop=>?_) _) (QaD hP fun op hop=>?_) (by rw[show((w.at d).setChan Ch cap (b.extract 1 b.size) closed s (r+1) tm).heap.size=w.heap.size by simp[World.setChan];rfl];exact hIc _ t _ hI fun op hop=>HU op hop)⟩
   ·obtain⟨h3,h4|h4⟩:=hu op hop<;>rw[h4]<;>exact⟨h3,rfl,by simp,by simp⟩
   ·obtain⟨h3,h4|h4⟩:=hu op hop<;>rw[h4]<;>exact⟨h3,rfl,Nat.lt_succ_self _,by simp,by simp⟩
 | @shut a g2 w z cap s r tm hrun h1 hc h2 ih=>
   intro gs sl t q B hn0 h0 hL hP hI;refine Kp hIm hrun (fun d gs sl t q B hn0 h0 hL hP hI=>?_) (sumTo gs.size q) w gs sl t q B ⟨w.drawn,rfl⟩ (QhS _) hn0 h0 hL hP hI;have hlt:0<gs.size:=(Array.getElem?_eq_some_iff.1 h0).1;have hrunT:=crowd_recv_closed (P:=P) (sl:=sl) (i:=0) h0 (show stepG P (0 ==0) a (w.at d)=_ from h1 d) hc (QaC hL Ch true hlt)
   have hu:∀op∈(MemOp.ofEvents 0 a.frame.fn a.frame.place #[]++ #[{g:=0,fn:=g2.frame.fn,pos:=g2.frame.place,act:=.recvClosed Ch}]:Trace),op.g=0∧op.act=.recvClosed Ch:=by
    intro op hop;rw[ofEvents_eq]at hop;simp at hop;subst hop;exact⟨rfl,rfl⟩
   have HV:∀op∈(MemOp.ofEvents 0 a.frame.fn a.frame.place #[]++ #[{g:=0,fn:=g2.frame.fn,pos:=g2.frame.place,act:=.recvClosed Ch}]:Trace),op.g=0∧op.act.touch? =none:=fun op hop=>by
    obtain⟨h3,h4⟩:=hu op hop;rw[h4];exact⟨h3,rfl⟩
   refine⟨_,_,hrunT,_,_,_,rfl,by simpa using hn0,ih d _ _ _ q (B+Ch+1) (by simpa using hn0) (QhW hlt) (Qaj hL (fun op hop=>?_) _) (QaD hP fun op hop=>?_) (hIc _ t _ hI fun op hop=>HV op hop)⟩
   ·obtain⟨h3,h4⟩:=hu op hop;rw[h4];exact⟨h3,rfl,by simp,by simp⟩
   ·obtain⟨h3,h4⟩:=hu op hop;rw[h4];exact⟨h3,rfl,Nat.lt_succ_self _,by simp,by simp⟩
end
end Co
section
open Go.RowKit
theorem Je:(Cut.prog.info? 3).map (fun i=>(i.zero,i.size,i.bytes))=some (some (.int .i64 0),1,8):=by kernel_rfl
def Seg (w:World)(a:Option Addr)(m:Nat)(f:Nat→Value):Prop:=
 0<m→∃b off,a=some ⟨b,off,none⟩∧b<w.heap.size∧∀i,i<m→w.cell? ⟨b,off+i,none⟩=some (f i)
theorem Seg.below {w w':World}{B:Nat}{a:Option Addr}{m:Nat}{f:Nat→Value}(h:Seg w a m f)(hb:Below B w w')(hB:w.heap.size≤B):Seg w' a m f:=by
 intro hm;obtain⟨b,off,h1,h2,h3⟩:=h hm;exact⟨b,off,h1,QhT h2 hb.size,fun i hi=>(hb.cell (p:=⟨b,off+i,none⟩) (QhT h2 hB)).trans (h3 i hi)⟩
def Qi (w:World)(a:Option Addr)(zs:List Int):Prop:=Seg w a zs.length fun i=>.int .i64 (zs.getD i 0)
theorem Qi.get {w:World}{a:Option Addr}{zs:List Int}(h:Qi w a zs){k:Nat}(hk:k<zs.length):∃b off,a=some ⟨b,off,none⟩∧b<w.heap.size∧w.cell? ⟨b,off+k,none⟩=some (.int .i64 zs[k]):=by
 obtain⟨b,off,h1,h2,h3⟩:=h (by omega);exact⟨b,off,h1,h2,by rw[h3 k hk];simp[List.getD,Qh0 hk]⟩
theorem Qi.below {w w':World}{B:Nat}{a:Option Addr}{zs:List Int}(h:Qi w a zs)(hb:Below B w w')(hB:w.heap.size≤B):Qi w' a zs:=Seg.below h hb hB
structure Ob where
 k:Int
 t:ByteArray
 ra:Option Addr
 rcap:Nat
 r:List Int
def Ob.p (o:Ob):Int×ByteArray×List Int:=(o.k,o.t,o.r)
def Ob.cs (o:Ob):List Value:=[.int .i64 o.k,.string o.t,.slice o.ra o.r.length o.rcap]
def ZE (w:World)(a:Option Addr)(os:List Ob):Prop:=
 (0<os.length→∃b off,a=some ⟨b,off,none⟩∧b<w.heap.size∧∀i (h:i<os.length),w.cell? ⟨b,off+i*3,none⟩=some (.int .i64 os[i].k)∧w.cell? ⟨b,off+i*3+1,none⟩=some (.string os[i].t)∧w.cell? ⟨b,off+i*3+2,none⟩=some (.slice os[i].ra os[i].r.length os[i].rcap))∧
 ∀i (h:i<os.length),Qi w os[i].ra os[i].r
theorem ZE.below {w w':World}{B:Nat}{a:Option Addr}{os:List Ob}(h:ZE w a os)(hb:Below B w w')(hB:w.heap.size≤B):ZE w' a os:=by
 refine⟨fun hm=>?_,fun i hi=>(h.2 i hi).below hb hB⟩;obtain⟨b,off,h1,h2,h3⟩:=h.1 hm;refine⟨b,off,h1,QhT h2 hb.size,fun i hi=>?_⟩;obtain⟨c1,c2,c3⟩:=h3 i hi;have hlt:=QhT h2 hB;exact⟨(hb.cell (p:=⟨b,_,none⟩) hlt).trans c1,(hb.cell (p:=⟨b,_,none⟩) hlt).trans c2,(hb.cell (p:=⟨b,_,none⟩) hlt).trans c3⟩
theorem ZE.get {w:World}{a:Option Addr}{os:List Ob}(h:ZE w a os){k:Nat}(hk:k<os.length):∃b off,a=some ⟨b,off,none⟩∧b<w.heap.size∧w.cell? ⟨b,off+k*3,none⟩=some (.int .i64 os[k].k)∧w.cell? ⟨b,off+k*3+1,none⟩=some (.string os[k].t)∧w.cell? ⟨b,off+k*3+2,none⟩=some (.slice os[k].ra os[k].r.length os[k].rcap):=by
 obtain⟨b,off,h1,h2,h3⟩:=h.1 (by omega);exact⟨b,off,h1,h2,h3 k hk⟩
def Qz (w:World)(a:Option Addr)(ws:List (Int×Int)):Prop:=
 0<ws.length→∃b off,a=some ⟨b,off,none⟩∧b<w.heap.size∧∀i (h:i<ws.length),w.cell? ⟨b,off+i*2,none⟩=some (.int .i64 ws[i].1)∧w.cell? ⟨b,off+i*2+1,none⟩=some (.int .i64 ws[i].2)
theorem Qz.below {w w':World}{B:Nat}{a:Option Addr}{ws:List (Int×Int)}(h:Qz w a ws)(hb:Below B w w')(hB:w.heap.size≤B):Qz w' a ws:=by
 intro hm;obtain⟨b,off,h1,h2,h3⟩:=h hm;refine⟨b,off,h1,QhT h2 hb.size,fun i hi=>?_⟩;obtain⟨c1,c2⟩:=h3 i hi;have hlt:=QhT h2 hB;exact⟨(hb.cell (p:=⟨b,_,none⟩) hlt).trans c1,(hb.cell (p:=⟨b,_,none⟩) hlt).trans c2⟩
theorem Qz.get {w:World}{a:Option Addr}{ws:List (Int×Int)}(h:Qz w a ws){k:Nat}(hk:k<ws.length):∃b off,a=some ⟨b,off,none⟩∧b<w.heap.size∧w.cell? ⟨b,off+k*2,none⟩=some (.int .i64 ws[k].1)∧w.cell? ⟨b,off+k*2+1,none⟩=some (.int .i64 ws[k].2):=by
 obtain⟨b,off,h1,h2,h3⟩:=h (by omega);exact⟨b,off,h1,h2,h3 k hk⟩
structure Hp where
 oa:Option Addr
 ocap:Nat
 os:List Ob
 ra:Option Addr
 rcap:Nat
 rs:List Int
 wa:Option Addr
 wcap:Nat
 ws:List (Int×Int)
 da:Option Addr
 dcap:Nat
 ds:List (Int×Int)
def Hp.v (h:Hp):Value:=.agg #[.slice h.oa h.os.length h.ocap,.slice h.ra h.rs.length h.rcap,.slice h.wa h.ws.length h.wcap,.slice h.da h.ds.length h.dcap]
structure Qj (w:World) (h:Hp):Prop where
 so:ZE w h.oa h.os
 sr:Qi w h.ra h.rs
 sw:Qz w h.wa h.ws
 sd:Qz w h.da h.ds
theorem Qj.below {w w':World}{B:Nat}{h:Hp}(hh:Qj w h)(hb:Below B w w')(hB:w.heap.size≤B):Qj w' h:=
 ⟨hh.so.below hb hB,hh.sr.below hb hB,hh.sw.below hb hB,hh.sd.below hb hB⟩
structure ZV (h:Hp):Prop where
 o:h.os.length≤1048576
 oo:∀i (hi:i<h.os.length),h.os[i].r.length≤1048576
 r:h.rs.length≤1048576
 w:h.ws.length≤1048576
 d:h.ds.length≤1048576
def Blk (w:World)(B:Nat)(cs:List Value)(t:TypeId):Prop:=w.heap[B]? =some (.cells cs.toArray t (0,0))
theorem Blk.lt {w:World}{B:Nat}{cs:List Value}{t:TypeId}(h:Blk w B cs t):B<w.heap.size:=lt_of_block h
theorem Blk.cell {w:World}{B:Nat}{cs:List Value}{t:TypeId}(h:Blk w B cs t)(j:Nat):w.cell? ⟨B,j,none⟩=cs[j]? :=by
 unfold Blk at h;simp[World.cell?,h]
theorem Blk.free {w:World}{B:Nat}{cs:List Value}{t:TypeId}(h:Blk w B cs t)(j:Nat):w.frozen? ⟨B,j,none⟩=false:=by
 unfold Blk at h;simp[World.frozen?,h]
theorem Blk.below {w w':World}{B C:Nat}{cs:List Value}{t:TypeId}(h:Blk w B cs t)(hb:Below C w w')(hC:B<C):Blk w' B cs t:=by
 unfold Blk at *;rw[hb.block B hC];exact h
theorem Blk.store {w:World}{B:Nat}{cs:List Value}{t:TypeId}(h:Blk w B cs t)(j:Nat)(u:Value):Blk (w.setCell ⟨B,j,none⟩ u) B (cs.set j u) t:=by
 have hlt:=h.lt;have h':w.heap[B]=.cells cs.toArray t (0,0):=by simpa[Blk,QhX hlt]using h
 show(w.heap.modify B _)[B]? =_;rw[QhX (by simpa using hlt),Array.getElem_modify_self,h'];simp
theorem Blk.other {w:World}{B:Nat}{cs:List Value}{t:TypeId}(h:Blk w B cs t)(p:Addr)(u:Value)(hp:B≠p.block):Blk (w.setCell p u) B cs t:=by
 unfold Blk at *;rw[Below.heap_setCell _ _ _ _ hp];exact h
theorem Blk.alloc {w:World}{B:Nat}{cs:List Value}{t:TypeId}(h:Blk w B cs t)(o:Obj):Blk (w.alloc o) B cs t:=by
 unfold Blk at *;rw[Below.heap_alloc _ _ _ (lt_of_block h)];exact h
theorem Blk.new (w:World)(cs:List Value)(t:TypeId):Blk (w.alloc (.cells cs.toArray t)) w.heap.size cs t:=heap_alloc_new w _
theorem Qcj {W w1:World}{B:Nat}(hb:Below B W w1):(∀b o,b<B→w1.cell? ⟨b,o,none⟩=W.cell? ⟨b,o,none⟩)∧(∀b o,b<B→w1.frozen? ⟨b,o,none⟩=W.frozen? ⟨b,o,none⟩):=
 ⟨fun b o h=>hb.cell (p:=⟨b,o,none⟩) h,fun b o h=>hb.frozen (p:=⟨b,o,none⟩) h⟩
theorem ZX {B:Nat}{a w:World}(h:Below B a w)(n:Nat):Below B a (w.drewN n):=⟨h.os,h.tape,h.output,h.size,h.block⟩
theorem P6 {w:World}{base e size g n:Nat}{xs:List Value}(h:w.ownsRow base e size (.slice (some ⟨g,0,none⟩) n n) n xs):Blk w g xs e:=by
 rcases h.2 with⟨h',_⟩|⟨g',cap',cur,h',_,hg,_,_,hs,htake⟩
 ·simp at h'
 ·simp only[Value.slice.injEq,Option.some.injEq,Addr.mk.injEq,and_true,true_and]at h';obtain⟨rfl,rfl⟩:=h';unfold Blk;rw[hg,←htake,←hs,←Qh1,List.take_length]
theorem Vk {w w':World}(hg:w.grownBy w' none):Below w.heap.size w w':=
 (Below.refl _ w).grown hg (QhS _) (fun k h=>by cases h)
theorem Blk.seg {w:World}{B:Nat}{cs:List Value}{t:TypeId}(h:Blk w B cs t):Seg w (some ⟨B,0,none⟩) cs.length fun i=>cs.getD i (.bool false):=by
 intro _;refine⟨B,0,rfl,h.lt,fun i hi=>?_⟩;rw[QhU,h.cell i];simp[List.getD,Qh0 hi]
theorem Blk.segI {w:World}{B:Nat}{zs:List Int}{t:TypeId}(h:Blk w B (zs.map (QhR .i64)) t):Qi w (some ⟨B,0,none⟩) zs:=by
 intro hm;refine⟨B,0,rfl,h.lt,fun i hi=>?_⟩;rw[QhU,h.cell i];simp[List.getD,Qh0 hi]
theorem JY {α:Type}(f:α→List Value)(s:Nat)(hf:∀x,(f x).length=s)(L:List α):(L.flatMap f).length=L.length*s:=by
 induction L with
 |nil=>simp
 |cons x L ih=>rw[List.flatMap_cons,List.length_append,hf,ih,List.length_cons,Nat.succ_mul];omega
theorem JE {α:Type}(f:α→List Value)(s:Nat)(hf:∀x,(f x).length=s)(L:List α)(i j:Nat)(hi:i<L.length)(hj:j<s):(L.flatMap f)[i*s+j]? =(f L[i])[j]? :=by
 induction L generalizing i with
 |nil=>simp at hi
 |cons x L ih=>
  rw[List.flatMap_cons]
  cases i with
  |zero=>rw[List.getElem?_append_left (by rw[hf];omega)];simp
  |succ i=>
   rw[List.getElem?_append_right (by rw[hf,Nat.succ_mul];omega),hf,show(i+1)*s+j-s=i*s+j by rw[Nat.succ_mul];omega];exact ih i (by simpa using hi)
def wc (p:Int×Int):List Value:=[.int .i64 p.1,.int .i64 p.2]
def Ob.zero:Ob:=⟨0,⟨#[]⟩,none,0,[]⟩
theorem Blk.segW {w:World}{B:Nat}{ws:List (Int×Int)}{t:TypeId}(h:Blk w B (ws.flatMap wc) t):Qz w (some ⟨B,0,none⟩) ws:=by
 intro hm;refine⟨B,0,rfl,h.lt,fun i hi=>?_⟩;have g0:=JE wc 2 (fun _=>rfl) ws i 0 hi (by omega);have g1:=JE wc 2 (fun _=>rfl) ws i 1 hi (by omega);refine⟨?_,?_⟩
 ·rw[QhU,h.cell];exact g0
 ·rw[QhU,h.cell];exact g1
theorem Blk.segO {w:World}{B:Nat}{os:List Ob}{t:TypeId}(h:Blk w B (os.flatMap Ob.cs) t)(hr:∀i (hi:i<os.length),Qi w os[i].ra os[i].r):ZE w (some ⟨B,0,none⟩) os:=by
 refine⟨fun hm=>⟨B,0,rfl,h.lt,fun i hi=>?_⟩,hr⟩;have g0:=JE Ob.cs 3 (fun _=>rfl) os i 0 hi (by omega);have g1:=JE Ob.cs 3 (fun _=>rfl) os i 1 hi (by omega);have g2:=JE Ob.cs 3 (fun _=>rfl) os i 2 hi (by omega);refine⟨?_,?_,?_⟩
 ·rw[QhU,h.cell];exact g0
 ·rw[QhU,h.cell];exact g1
 ·rw[QhU,h.cell];exact g2
end
namespace Co
open Go.Conc Go.ConcN Go.RowKit Go.Conc.Lib Go.ConcR.Gen
open Go.ConcR (DC0)
set_option linter.unusedSimpArgs false
theorem O8:(Tryz.prog.info? 3).map (fun i=>(i.zero,i.size,i.bytes))=some (some (.int .i64 0),1,8):=by kernel_rfl
theorem QL {P:Program}{X:Nat→Bool}{Ch:Nat}{Fin:Goroutine→World→Prop}:∀ {n:Nat} {g:Goroutine} {w:World},Goes P true AtRel DC0 (fun g w=>Qv P X Ch Fin g w) n g w→Qv P X Ch Fin g w
 |0,g,w,h=>h w (atRel_refl w)
 |n+1,g,w,h=>by
  rcases h with h|⟨hs,h⟩
  ·exact h w (atRel_refl w)
  ·refine .step hs (fun d=>?_) (fun d g' w' es hgo=>?_)
   ·obtain⟨g',w',es,hgo,⟨rfl,rfl⟩,_⟩:=goes_elim (h (w.at d) ⟨d,rfl⟩);exact⟨g',_,#[],hgo,QhS _,by simp⟩
   ·have h1:=h (w.at d) ⟨d,rfl⟩;rw[hgo]at h1;exact QL h1.2
theorem ZQ {P:Program}{X:Nat→Bool}{Ch:Nat}{Fin:Goroutine→World→Prop}{g:Goroutine}{w:World}(hs:g.status=.running)(h:∀w1,AtRel w w1→(stepG P true g w1).goes fun g' w' es=>(w.heap.size≤w'.heap.size∧∀B,w'.heap.size≤B→∀e∈es,Ev X B e)∧Qv P X Ch Fin g' w'):Qv P X Ch Fin g w:=by
 refine .step hs (fun d=>?_) (fun d g' w' es hgo=>?_)
 ·obtain⟨g',w',es,hgo,he,_⟩:=goes_elim (h (w.at d) ⟨d,rfl⟩);exact⟨g',w',es,hgo,he⟩
 ·have h1:=h (w.at d) ⟨d,rfl⟩;rw[hgo]at h1;exact h1.2
noncomputable def ioB:Code:=match Tryz.f113.body with
 |some (.seq _ (.seq _ (.seq (.seq _ (.block _ (.loop b))) _)))=>b
 |_=>.skip
noncomputable def ioE:Code:=match Tryz.f113.body with
 |some (.seq _ (.seq _ (.seq (.seq _ (.block _ (.loop _))) e)))=>e
 |_=>.skip
theorem Ko (T:Array Value)(h:T.size=16):∃v0 v1 v2 v3 v4 v5 v6 v7 v8 v9 v10 v11 v12 v13 v14 v15,T=#[v0,v1,v2,v3,v4,v5,v6,v7,v8,v9,v10,v11,v12,v13,v14,v15]:=by
 obtain⟨l⟩:=T;simp only[List.size_toArray]at h;rcases l with _|⟨v0,l⟩
 ·simp at h
 rcases l with _|⟨v1,l⟩
 ·simp at h
 rcases l with _|⟨v2,l⟩
 ·simp at h
 rcases l with _|⟨v3,l⟩
 ·simp at h
 rcases l with _|⟨v4,l⟩
 ·simp at h
 rcases l with _|⟨v5,l⟩
 ·simp at h
 rcases l with _|⟨v6,l⟩
 ·simp at h
 rcases l with _|⟨v7,l⟩
 ·simp at h
 rcases l with _|⟨v8,l⟩
 ·simp at h
 rcases l with _|⟨v9,l⟩
 ·simp at h
 rcases l with _|⟨v10,l⟩
 ·simp at h
 rcases l with _|⟨v11,l⟩
 ·simp at h
 rcases l with _|⟨v12,l⟩
 ·simp at h
 rcases l with _|⟨v13,l⟩
 ·simp at h
 rcases l with _|⟨v14,l⟩
 ·simp at h
 rcases l with _|⟨v15,l⟩
 ·simp at h
 obtain rfl:l=[]:=by
  cases l with
  |nil=>rfl
  |cons=>simp at h
 exact⟨v0,v1,v2,v3,v4,v5,v6,v7,v8,v9,v10,v11,v12,v13,v14,v15,rfl⟩
structure InH (Ch:Nat) (v:Value) (T:Array Value):Prop where
 sz:T.size=16
 t3:T[3]? =some v
 t5:T[5]? =some (.chan (some Ch))
structure InO (X:Nat→Bool) (N1 Ch cap:Nat) (wJ:World) (done rest:List Value) (v:Value) (w:World):Prop where
 low:∀b,b<N1→b≠Ch→w.heap[b]? =wJ.heap[b]?
 big:N1≤w.heap.size
 row:w.ownsRow N1 3 1 v done.length done
 ch:∃b s r tm,b.toList=rest∧w.heap[Ch]? =some (.chan cap b true s r tm)
 chl:Ch<N1
 xs:∀b,N1≤b→X b=false
 oo:OO w wJ
theorem InO.rely {X:Nat→Bool}{N1 Ch cap:Nat}{wJ:World}{done rest:List Value}{v:Value}{w w1:World}(h:InO X N1 Ch cap wJ done rest v w)(r:AtRel w w1):InO X N1 Ch cap wJ done rest v w1:=by
 obtain⟨d,rfl⟩:=r;exact⟨h.low,h.big,h.row,h.ch,h.chl,h.xs,h.oo⟩
theorem QaM {P:Program}{b:Frame}{a:Act}{k:List Item}{cs:List Frame}{ops:Array Oper}{i:Nat}{rest:List Nat}{o:Oper}{z:Value}{c:Nat}(w:World)(ho:ops[i]? =some o)(hw:Region.wanted o (yielded ops a.tmps)=true)(hk:b.kind≠.early)
 (hr:(execOp a.eval o).run P w=.ok (.comm #[rcase c z] true (.recv true)) w)(he:(execOp a.eval o).events P w #[]=#[]):
 stepG P true (G (b.at a (.inRegion ops (i::rest)::k)) cs) w=.comm (G (b.at a (.inRegion ops (i::rest)::k)) cs) #[rcase c z] true (.recv true) w #[]:=by
 rw[stepG_comm ho hw hk hr];unfold listed;rw[he];simp[seen]
theorem QaL {P:Program}{b:Frame}{a:Act}{k:List Item}{cs:List Frame}{ops:Array Oper}{i:Nat}{rest:List Nat}{o:Oper}{z:Value}{c:Nat}(ho:ops[i]? =some o)(v:Value)(ok:Bool):
 (G (b.at a (.inRegion ops (i::rest)::k)) cs).finishComm P #[rcase c z] (.recv true) 0 v ok=G (b.at (a.put o.dst (.tuple #[v,.bool ok])) (.inRegion ops rest::k)) cs:=by
 rw[finishComm_recv,served_G];simp[ho,recvd]
section
variable {X:Nat→Bool} {N1 Ch cap:Nat} {wJ:World} {Fin:Goroutine→World→Prop} {cs:List Frame}
theorem QeE {done rest:List Value}{x:Value}{v:Value}(hlen:done.length<1000000)(hx:∃i:Int,x=.int .i64 i)
 (hH:∀T v,InH Ch v T→∀w,InO X N1 Ch cap wJ (done++ [x]) rest v w→Qv Tryz.prog X Ch Fin (G ((base 113).at ⟨T,[]⟩ [.code ioB,.inLoop ioB,.inBlock 0,.code ioE]) cs) w)
 {T:Array Value}(hT:InH Ch v T){w:World}(hF:InO X N1 Ch cap wJ done (x::rest) v w):Qv Tryz.prog X Ch Fin (G ((base 113).at ⟨T,[]⟩ [.code ioB,.inLoop ioB,.inBlock 0,.code ioE]) cs) w:=by
 obtain⟨v0,v1,v2,v3,v4,v5,v6,v7,v8,v9,v10,v11,v12,v13,v14,v15,rfl⟩:=Ko T hT.sz;obtain⟨_,t3,t5⟩:=hT;simp only[Qh2,QhY,Qh3,Option.some.injEq]at t3 t5;subst t3 t5;obtain⟨xi,rfl⟩:=hx;simp only[ioB,ioE,Tryz.f113]at hH⊢;refine QL (n:=20) ?_;u_c stepG_seq InO.rely hF;u_reg InO.rely hF;refine Goes.stop (fun w1 h1=>?_);replace hF:=InO.rely hF h1;clear h1;obtain⟨b,s,r,tm,hb,hc⟩:=hF.ch;refine .buf rfl (fun d=>QaM (z:=.int .i64 0) (c:=Ch) (w1.at d) rfl rfl (by decide) (by simp[go_sem,rcase]) (by simp[go_sem])) hc (by rw[←Qh1,hb];simp) (fun d=>?_);rw[QaL rfl]
 have hb0:b.getD 0 undef=.int .i64 xi:=by
  rw[Qh4,←Array.getElem?_toList,hb];rfl
 rw[hb0]
 have hb1:(b.extract 1 b.size).toList=rest:=by
  rw[Array.toList_extract,hb,←Qh1,hb];simp
 obtain⟨w2,hw2⟩:∃w2,w2=(w1.at d).setChan Ch cap (b.extract 1 b.size) true s (r+1) tm:=⟨_,rfl⟩;rw[←hw2]
 have hheap:∀k,k≠Ch→w2.heap[k]? =w1.heap[k]? :=fun k hk=>by
  rw[hw2];simp only[World.setChan];exact QhV (Ne.symm hk)
 have hsz2:w2.heap.size=w1.heap.size:=by rw[hw2];simp[World.setChan];rfl
 have hF2:InO X N1 Ch cap wJ done rest v3 w2:=by
  refine⟨fun k h1 h2=>(hheap k h2).trans (hF.low k h1 h2),by rw[hsz2];exact hF.big,?_,⟨_,s,r+1,tm,hb1,?_⟩,hF.chl,hF.xs,by rw[hw2];exact hF.oo⟩
  ·obtain⟨h1,h2|⟨g,cp,cur,h2,h3,h4,h5⟩⟩:=hF.row
   ·exact⟨h1,.inl h2⟩
   ·exact⟨h1,.inr ⟨g,cp,cur,h2,h3,(hheap g (by have:=hF.chl;omega)).trans h4,h5⟩⟩
  ·rw[hw2];simp only[World.setChan];exact QhW (Array.getElem?_eq_some_iff.1 hc).1
 clear hF hc hb hb0 hb1 hw2 hheap hsz2;refine QL (n:=30) ?_;walk_nrm;u_op InO.rely hF2;u_c stepG_region_end InO.rely hF2;u_c stepG_seq InO.rely hF2
 u_cond true InO.rely hF2
 u_c stepG_skip InO.rely hF2;u_c stepG_block InO.rely hF2;u_c stepG_seq InO.rely hF2;u_reg InO.rely hF2;u_op InO.rely hF2;u_op InO.rely hF2;u_c stepG_region_end InO.rely hF2;u_reg InO.rely hF2;u_op InO.rely hF2;u_op InO.rely hF2;refine Goes.stop (fun w3 h3=>?_);replace hF2:=InO.rely hF2 h3;clear h3;refine ZQ rfl (fun w4 h4=>?_);replace hF2:=InO.rely hF2 h4;have hz4:w3.heap.size≤w4.heap.size:=by obtain⟨d,rfl⟩:=h4;exact QhS _
 clear h4;refine goes_oper_k rfl rfl (by decide) (fun K hK=>?_);go_simp;refine hK _ _ ⟨⟨by simp;omega,fun B hB e he=>?_⟩,?_⟩
 ·have hm:=mem_listed he;simp[go_sem]at hm
 clear hK K hz4;obtain⟨bs,hbs⟩:∃bs,bs=w4.heap.size:=⟨_,rfl⟩;have hbsN:N1≤bs:=by rw[hbs];exact hF2.big
 have hsrc:(w4.alloc (Obj.cells #[QhR IntKind.i64 xi] 3)).heap[bs]? =some (.cells #[.int .i64 xi] 3):=by rw[hbs];exact heap_alloc_new w4 _
 have hF3:InO X N1 Ch cap wJ done rest v3 (w4.alloc (Obj.cells #[QhR IntKind.i64 xi] 3)):=by
  have hal:∀k,k<w4.heap.size→(w4.alloc (Obj.cells #[QhR IntKind.i64 xi] 3)).heap[k]? =w4.heap[k]? :=fun k hk=>Below.heap_alloc w4 _ k hk;have hbg:=hF2.big;refine⟨fun k h1 h2=>(hal k (by omega)).trans (hF2.low k h1 h2),by simp;omega,?_,?_,hF2.chl,hF2.xs,hF2.oo⟩
  ·obtain⟨h1,h2|⟨g,cp,cur,h2,h3,h4,h5⟩⟩:=hF2.row
   ·exact⟨h1,.inl h2⟩
   ·exact⟨h1,.inr ⟨g,cp,cur,h2,h3,(hal g (Array.getElem?_eq_some_iff.1 h4).1).trans h4,h5⟩⟩
  ·obtain⟨b,s,r,tm,h1,h2⟩:=hF2.ch;exact⟨b,s,r,tm,h1,(hal Ch (by have:=hF2.chl;omega)).trans h2⟩
 rw[←hbs];generalize hw5:w4.alloc (Obj.cells #[QhR IntKind.i64 xi] 3)=w5 at hsrc hF3;clear hw5 hbs hF2;refine ZQ rfl (fun w6 h6=>?_);have hz6:w5.heap.size≤w6.heap.size:=by obtain⟨d,rfl⟩:=h6;exact QhS _
 replace hF3:=InO.rely hF3 h6;replace hsrc:w6.heap[bs]? =some (.cells #[.int .i64 xi] 3):=by obtain⟨d,rfl⟩:=h6;exact hsrc
 clear h6
 obtain⟨i0,hi,hz0,hz1,hz2⟩:∃i0,Tryz.prog.info? 3=some i0∧i0.zero=some (.int .i64 0)∧i0.size=1∧i0.bytes=8:=by
  have h:=O8
  cases hx:Tryz.prog.info? 3 with
  |none=>rw[hx]at h;cases h
  |some i0=>
   rw[hx]at h;simp only[Option.map_some,Option.some.injEq,Prod.mk.injEq]at h;exact⟨i0,rfl,h.1,h.2.1,h.2.2⟩
 have hnews:∀j u,[QhR .i64 xi][j]? =some u→w6.cell? ((⟨bs,0,none⟩:Addr).add j)=some u:=fun j u hu=>by
  match j,hu with
  |0,hu=>simp only[QhY,Option.some.injEq]at hu;subst hu;simp[Addr.add,World.cell?,hsrc]
  |j+1,hu=>simp at hu
 have h1c:∀u∈[QhR .i64 xi],u.oneCell'=true:=fun u hu=>by simp only[List.mem_singleton]at hu;subst hu;rfl
 obtain⟨v',w7,hr,hrow,hgr,_,hob⟩:=run_append_own_at (P:=Tryz.prog) w6 N1 24 24 3 i0 (.int .i64 0) 1 8 Tryz.underlying24 hi hz0 hz1 hz2 rfl (by omega) v3 done.length done hF3.row ⟨bs,0,none⟩ 1 1 [.int .i64 xi] rfl hnews h1c (by simp only[maxLen];omega) (by omega) hF3.big;have hevs:=events_append_where (P:=Tryz.prog) w6 N1 24 24 3 i0 (.int .i64 0) 1 8 Tryz.underlying24 hi hz0 hz1 hz2 v3 done.length done hF3.row ⟨bs,0,none⟩ 1 1 [.int .i64 xi] rfl hnews h1c (by simp only[maxLen];omega) (by omega);have hown:=hF3.row.lt;have hlt6:bs<w6.heap.size:=(Array.getElem?_eq_some_iff.1 hsrc).1;refine goes_oper_k rfl rfl (by decide) (fun K hK=>?_);refine uponK_append _ _ 24 rfl rfl rfl hr (hK _ _ ⟨⟨by have:=hgr.size;omega,fun B hB e he=>?_⟩,?_⟩)
 ·have hm:=mem_listed he;rw[events_append_op _ _ 24 rfl rfl rfl]at hm;have hs7:=hgr.size;rcases hevs e hm with⟨ad,h1,⟨_,h2⟩|h2⟩|⟨m,rfl,h2⟩
  ·unfold Ev;rw[h1];exact⟨hF3.xs _ (by rw[h2];exact hbsN),by rw[h2];show bs<B;omega⟩
  ·have:=hown _ h2.symm;unfold Ev;rw[h1];exact⟨hF3.xs _ this.1,by omega⟩
  ·exact h2
 clear hK K hevs hr
 have hF4:InO X N1 Ch cap wJ (done++ [.int .i64 xi]) rest v' w7:=by
  have hbk:∀k,k<N1→w7.heap[k]? =w6.heap[k]? :=fun k hk=>hgr.block k (by have:=hF3.big;omega) fun e=>by have:=hown k e.symm;omega
  refine⟨fun k h1 h2=>(hbk k h1).trans (hF3.low k h1 h2),Nat.le_trans hF3.big hgr.size,by simpa using hrow,?_,hF3.chl,hF3.xs,OO.trans ⟨hgr.os,hgr.output⟩ hF3.oo⟩;obtain⟨b,s,r,tm,h1,h2⟩:=hF3.ch;exact⟨b,s,r,tm,h1,(hbk Ch hF3.chl).trans h2⟩
 clear hF3 hrow hgr hob hown hlt6 hsrc hnews h1c hi hz0 hz1 hz2;refine QL (n:=20) ?_;walk_nrm;u_op InO.rely hF4;u_c stepG_region_end InO.rely hF4;u_c stepG_inBlock InO.rely hF4;u_c stepG_inLoop InO.rely hF4;exact Goes.stop (fun w9 h9=>hH _ v' ⟨rfl,rfl,rfl⟩ w9 (InO.rely hF4 h9))
end
noncomputable def Qa6:Array Oper:=match ioE with
 | .seq (.region _ ops _) _=>ops
 |_=>#[]
noncomputable def ioF:Code:=match ioE with
 | .seq _ e=>e
 |_=>.skip
noncomputable def K3 (T:Array Value):Frame:=(base 113).at ⟨T,[]⟩ [.inRegion Qa6 [1],.code ioF]
def Vg (X:Nat→Bool)(N1 Ch cap:Nat)(wJ:World)(all:List Value)(cs:List Frame)(g:Goroutine)(w:World):Prop:=
 ∃T v,T.size=16∧T[3]? =some v∧g=G (Frame.enter Tryz.prog 146 #[v] .normal) (K3 T::cs)∧InO X N1 Ch cap wJ all [] v w
section
variable {X:Nat→Bool} {N1 Ch cap:Nat} {wJ:World} {cs:List Frame}
theorem QeC {done:List Value}{v:Value}{T:Array Value}(hT:InH Ch v T){w:World}(hF:InO X N1 Ch cap wJ done [] v w):Qv Tryz.prog X Ch (Vg X N1 Ch cap wJ done cs) (G ((base 113).at ⟨T,[]⟩ [.code ioB,.inLoop ioB,.inBlock 0,.code ioE]) cs) w:=by
 obtain⟨v0,v1,v2,v3,v4,v5,v6,v7,v8,v9,v10,v11,v12,v13,v14,v15,rfl⟩:=Ko T hT.sz;obtain⟨_,t3,t5⟩:=hT;simp only[Qh2,QhY,Qh3,Option.some.injEq]at t3 t5;subst t3 t5;simp only[ioB,ioE,Tryz.f113];refine QL (n:=20) ?_;u_c stepG_seq InO.rely hF;u_reg InO.rely hF;refine Goes.stop (fun w1 h1=>?_);replace hF:=InO.rely hF h1;clear h1;obtain⟨b,s,r,tm,hb,hc⟩:=hF.ch;obtain rfl:b=#[]:=by rw[←Array.toList_eq_nil_iff];exact hb
 refine .shut rfl (fun d=>QaM (z:=.int .i64 0) (c:=Ch) (w1.at d) rfl rfl (by decide) (by simp[go_sem,rcase]) (by simp[go_sem])) hc (fun d=>?_);rw[QaL rfl];replace hF:=InO.rely hF ⟨d,rfl⟩;clear hc hb;refine QL (n:=30) ?_;walk_nrm;u_op InO.rely hF;u_c stepG_region_end InO.rely hF;u_c stepG_seq InO.rely hF
 u_cond false InO.rely hF
 u_exit InO.rely hF
 u_c stepG_seq InO.rely hF;u_reg InO.rely hF;u_op InO.rely hF;u_in InO.rely hF;refine goes_call rfl rfl (by decide) rfl Tryz.func146 rfl rfl ⟨by u_nil,?_⟩;rw[←enter_at _ Tryz.func146 rfl];simp only[List.map_toArray,List.map_cons,List.map_nil,Act.eval,Qh4,Qh2,Qh3,QhY,Option.getD_some];exact Goes.stop (fun w9 h9=>.stop ⟨_,v3,rfl,rfl,rfl,InO.rely hF h9⟩)
theorem O9:∀(rest done:List Value),(∀u∈rest,∃i:Int,u=.int .i64 i)→done.length+rest.length<1000000→∀T v,InH Ch v T→∀w,InO X N1 Ch cap wJ done rest v w→
 Qv Tryz.prog X Ch (Vg X N1 Ch cap wJ (done++rest) cs) (G ((base 113).at ⟨T,[]⟩ [.code ioB,.inLoop ioB,.inBlock 0,.code ioE]) cs) w
 | [],done,_,_,T,v,hT,w,hF=>by
   rw[List.append_nil];exact QeC hT hF
 |x::rest,done,hi,hn,T,v,hT,w,hF=>by
  simp only[List.length_cons]at hn;refine QeE (by omega) (hi x List.mem_cons_self) (fun T v hT w hF=>?_) hT hF;have:=O9 rest (done++ [x]) (fun u hu=>hi u (List.mem_cons_of_mem _ hu)) (by simp;omega) T v hT w hF;rwa[List.append_assoc,List.singleton_append]at this
theorem QeD {all:List Value}(hi:∀u∈all,∃i:Int,u=.int .i64 i)(hn:all.length<1000000){w:World}(hF:InO X N1 Ch cap wJ [] all (.slice none 0 0) w):
 Qv Tryz.prog X Ch (Vg X N1 Ch cap wJ all cs) (G (Frame.enter Tryz.prog 113 #[.chan (some Ch)] .normal) cs) w:=by
 rw[enter_at _ Tryz.func113 rfl];refine QL (n:=30) ?_;simp only[Tryz.f113];walk_nrm;u_c stepG_seq InO.rely hF;u_reg InO.rely hF;u_op InO.rely hF;u_c stepG_region_end InO.rely hF;u_c stepG_seq InO.rely hF;u_reg InO.rely hF;u_op InO.rely hF;u_c stepG_region_end InO.rely hF;u_c stepG_seq InO.rely hF;u_c stepG_seq InO.rely hF;u_reg InO.rely hF;u_op InO.rely hF;u_c stepG_region_end InO.rely hF;u_c stepG_block InO.rely hF;u_c stepG_loop InO.rely hF;refine Goes.stop (fun w9 h9=>?_);exact O9 all [] hi (by simpa using hn) _ (.slice none 0 0) ⟨rfl,rfl,rfl⟩ w9 (InO.rely hF h9)
end
end Co
section
open Go.RowKit
theorem Jr:(Cut.prog.info? 40).map (fun i=>(i.zero,i.size,i.bytes))=some (some (.agg #[.int .i64 0,.int .i64 0]),2,16):=by kernel_rfl
theorem YT:(Cut.prog.info? 37).map (fun i=>(i.zero,i.size,i.bytes))=some (some (.agg #[.int .i64 0,.string ⟨#[]⟩,.slice none 0 0]),3,48):=by kernel_rfl
def JO (w:World)(B:Nat)(l:List Ob):Prop:=∀i (hi:i<l.length),∃g,l[i].ra=some ⟨g,0,none⟩∧B≤g∧l[i].rcap=l[i].r.length∧Blk w g (l[i].r.map (QhR .i64)) 3
theorem JO.below {w w':World}{B C:Nat}{l:List Ob}(h:JO w B l)(hb:Below C w w')(hC:w.heap.size≤C):JO w' B l:=fun i hi=>by
 obtain⟨g,h1,h2,h3,h4⟩:=h i hi;exact⟨g,h1,h2,h3,h4.below hb (QhT h4.lt hC)⟩
theorem JO.store {w:World}{B:Nat}{l:List Ob}(h:JO w B l)(p:Addr)(v:Value)(hp:p.block<B):JO (w.setCell p v) B l:=fun i hi=>by
 obtain⟨g,h1,h2,h3,h4⟩:=h i hi;exact⟨g,h1,h2,h3,h4.other p v (by omega)⟩
theorem JO.snoc {w:World}{B:Nat}{l:List Ob}(h:JO w B l)(o:Ob)(g:Nat)(h1:o.ra=some ⟨g,0,none⟩)(h2:B≤g)(h3:o.rcap=o.r.length)(h4:Blk w g (o.r.map (QhR .i64)) 3):JO w B (l++ [o]):=fun i hi=>by
 by_cases hl:i<l.length
 ·simpa[List.getElem_append_left hl]using h i hl
 ·have e:i=l.length:=by simp at hi;omega
  subst e;simpa using⟨g,h1,h2,h3,h4⟩
theorem JO.seg {w:World}{B:Nat}{l:List Ob}(h:JO w B l)(i:Nat)(hi:i<l.length):Qi w l[i].ra l[i].r:=by
 obtain⟨g,h1,_,_,h4⟩:=h i hi;rw[h1];exact h4.segI
def Hp.p (h:Hp):List (Int×ByteArray×List Int)×List Int×List (Int×Int)×List (Int×Int):=(h.os.map Ob.p,h.rs,h.ws,h.ds)
structure PY (w:World) (B:Nat) (h:Hp) (go gr gw gd:Nat):Prop where
 oa:h.oa=some ⟨go,0,none⟩
 ocap:h.ocap=h.os.length
 ra:h.ra=some ⟨gr,0,none⟩
 rcap:h.rcap=h.rs.length
 wa:h.wa=some ⟨gw,0,none⟩
 wcap:h.wcap=h.ws.length
 da:h.da=some ⟨gd,0,none⟩
 dcap:h.dcap=h.ds.length
 le:B≤go
 lt1:go<gr
 lt2:gr<gw
 lt3:gw<gd
 bo:Blk w go (h.os.flatMap Ob.cs) 37
 own:JO w (go+1) h.os
 olt:∀i (hi:i<h.os.length) (g:Nat),h.os[i].ra=some ⟨g,0,none⟩→g<gr
 br:Blk w gr (h.rs.map (QhR .i64)) 3
 bw:Blk w gw (h.ws.flatMap wc) 40
 bd:Blk w gd (h.ds.flatMap wc) 40
theorem PY.isIn {w:World}{B go gr gw gd:Nat}{h:Hp}(hh:PY w B h go gr gw gd):Qj w h:=by
 refine⟨?_,?_,?_,?_⟩
 ·rw[hh.oa];exact hh.bo.segO (fun i hi=>hh.own.seg i hi)
 ·rw[hh.ra];exact hh.br.segI
 ·rw[hh.wa];exact hh.bw.segW
 ·rw[hh.da];exact hh.bd.segW
end
end Go.Proofs.YtcpnkpogebjieaaGreat
