/- inOrder beside goroutines that only leave: all that lies in the channel comes over, in -/
import Derived.Conc.AppendWalk
import Derived.Conc.WgGenLone
import Derived.Maps.AppendAt
import Derived.Test.YtcpnkpogebjieaaGreatG08Base
import Derived.Test.YtcpnkpogebjieaaGreatG07Za
open Go.Value renaming int→Qhp
open List renaming getElem?_cons_zero→Qhq,getElem?_toArray→Qhr,getElem?_cons_succ→Qhs
set_option maxRecDepth 100000
set_option maxHeartbeats 2000000
namespace Go.Proofs.YtcpnkpogebjieaaGreat
namespace Co
open Go.Conc Go.ConcN Go.RowKit Go.Conc.Lib Go.ConcR.Gen
open Go.ConcR (DC0)
set_option linter.unusedSimpArgs false
theorem QaT:(Tryz.prog.info? 3).map (fun i=>(i.zero,i.size,i.bytes))=some (some (.int .i64 0),1,8):=by kernel_rfl
theorem QI {P:Program}{X:Nat→Bool}{Ch:Nat}{Fin:Goroutine→World→Prop}:∀ {n:Nat} {g:Goroutine} {w:World},Goes P true AtRel DC0 (fun g w=>Qt P X Ch Fin g w) n g w→Qt P X Ch Fin g w
 |0,g,w,h=>h w (atRel_refl w)
 |n+1,g,w,h=>by
  rcases h with h|⟨hs,h⟩
  ·exact h w (atRel_refl w)
  ·refine .step hs (fun d=>?_) (fun d g' w' es hgo=>?_)
   ·obtain⟨g',w',es,hgo,⟨rfl,rfl⟩,_⟩:=goes_elim (h (w.at d) ⟨d,rfl⟩)
    exact⟨g',_,#[],hgo,Nat.le_refl _,by simp⟩
   ·have h1:=h (w.at d) ⟨d,rfl⟩
    rw[hgo]at h1
    exact QI h1.2
theorem ZK {P:Program}{X:Nat→Bool}{Ch:Nat}{Fin:Goroutine→World→Prop}{g:Goroutine}{w:World}(hs:g.status=.running)(h:∀w1,AtRel w w1→(stepG P true g w1).goes fun g' w' es=>(w.heap.size≤w'.heap.size∧∀B,w'.heap.size≤B→∀e∈es,Ev X B e)∧Qt P X Ch Fin g' w'):Qt P X Ch Fin g w:=by
 refine .step hs (fun d=>?_) (fun d g' w' es hgo=>?_)
 ·obtain⟨g',w',es,hgo,he,_⟩:=goes_elim (h (w.at d) ⟨d,rfl⟩)
  exact⟨g',w',es,hgo,he⟩
 ·have h1:=h (w.at d) ⟨d,rfl⟩
  rw[hgo]at h1
  exact h1.2
noncomputable def ioB:Code:=match Tryz.f113.body with
 |some (.seq _ (.seq _ (.seq (.seq _ (.block _ (.loop b))) _)))=>b
 |_=>.skip
noncomputable def ioE:Code:=match Tryz.f113.body with
 |some (.seq _ (.seq _ (.seq (.seq _ (.block _ (.loop _))) e)))=>e
 |_=>.skip
theorem Kw (T:Array Value)(h:T.size=16):∃v0 v1 v2 v3 v4 v5 v6 v7 v8 v9 v10 v11 v12 v13 v14 v15,T=#[v0,v1,v2,v3,v4,v5,v6,v7,v8,v9,v10,v11,v12,v13,v14,v15]:=by
 obtain⟨l⟩:=T
 simp only[List.size_toArray]at h
 rcases l with _|⟨v0,l⟩
 ·simp at h
 rcases l with _|⟨v1,l⟩
 ·simp at h
 rcases l with _|⟨v2,l⟩
 ·simp at h
 rcases l with _|⟨v3,l⟩
 ·simp at h
 rcases l with _|⟨v4,l⟩
 ·simp at h
 rcases l with _|⟨v5,l⟩
 ·simp at h
 rcases l with _|⟨v6,l⟩
 ·simp at h
 rcases l with _|⟨v7,l⟩
 ·simp at h
 rcases l with _|⟨v8,l⟩
 ·simp at h
 rcases l with _|⟨v9,l⟩
 ·simp at h
 rcases l with _|⟨v10,l⟩
 ·simp at h
 rcases l with _|⟨v11,l⟩
 ·simp at h
 rcases l with _|⟨v12,l⟩
 ·simp at h
 rcases l with _|⟨v13,l⟩
 ·simp at h
 rcases l with _|⟨v14,l⟩
 ·simp at h
 rcases l with _|⟨v15,l⟩
 ·simp at h
 obtain rfl:l=[]:=by
  cases l with
  |nil=>rfl
  |cons=>simp at h
 exact⟨v0,v1,v2,v3,v4,v5,v6,v7,v8,v9,v10,v11,v12,v13,v14,v15,rfl⟩
structure InH (Ch:Nat) (v:Value) (T:Array Value):Prop where
 sz:T.size=16
 t3:T[3]? =some v
 t5:T[5]? =some (.chan (some Ch))
structure InO (X:Nat→Bool) (N1 Ch cap:Nat) (wJ:World) (done rest:List Value) (v:Value) (w:World):Prop where
 low:∀b,b<N1→b≠Ch→w.heap[b]? =wJ.heap[b]?
 big:N1≤w.heap.size
 row:w.ownsRow N1 3 1 v done.length done
 ch:∃b s r tm,b.toList=rest∧w.heap[Ch]? =some (.chan cap b true s r tm)
 chl:Ch<N1
 xs:∀b,N1≤b→X b=false
 oo:OO w wJ
theorem InO.rely {X:Nat→Bool}{N1 Ch cap:Nat}{wJ:World}{done rest:List Value}{v:Value}{w w1:World}(h:InO X N1 Ch cap wJ done rest v w)(r:AtRel w w1):InO X N1 Ch cap wJ done rest v w1:=by
 obtain⟨d,rfl⟩:=r
 exact⟨h.low,h.big,h.row,h.ch,h.chl,h.xs,h.oo⟩
theorem OL {P:Program}{b:Frame}{a:Act}{k:List Item}{cs:List Frame}{ops:Array Oper}{i:Nat}{rest:List Nat}{o:Oper}{z:Value}{c:Nat}(w:World)(ho:ops[i]? =some o)(hw:Region.wanted o (yielded ops a.tmps)=true)(hk:b.kind≠.early)
 (hr:(execOp a.eval o).run P w=.ok (.comm #[rcase c z] true (.recv true)) w)(he:(execOp a.eval o).events P w #[]=#[]):
 stepG P true (G (b.at a (.inRegion ops (i::rest)::k)) cs) w=.comm (G (b.at a (.inRegion ops (i::rest)::k)) cs) #[rcase c z] true (.recv true) w #[]:=by
 rw[stepG_comm ho hw hk hr]
 unfold listed
 rw[he]
 simp[seen]
theorem Qau {P:Program}{b:Frame}{a:Act}{k:List Item}{cs:List Frame}{ops:Array Oper}{i:Nat}{rest:List Nat}{o:Oper}{z:Value}{c:Nat}(ho:ops[i]? =some o)(v:Value)(ok:Bool):
 (G (b.at a (.inRegion ops (i::rest)::k)) cs).finishComm P #[rcase c z] (.recv true) 0 v ok=G (b.at (a.put o.dst (.tuple #[v,.bool ok])) (.inRegion ops rest::k)) cs:=by
 rw[finishComm_recv,served_G]
 simp[ho,recvd]
section
variable {X:Nat→Bool} {N1 Ch cap:Nat} {wJ:World} {Fin:Goroutine→World→Prop} {cs:List Frame}
theorem QeJ {done rest:List Value}{x:Value}{v:Value}(hlen:done.length<1000000)(hx:∃i:Int,x=.int .i64 i)
 (hH:∀T v,InH Ch v T→∀w,InO X N1 Ch cap wJ (done++ [x]) rest v w→Qt Tryz.prog X Ch Fin (G ((base 113).at ⟨T,[]⟩ [.code ioB,.inLoop ioB,.inBlock 0,.code ioE]) cs) w)
 {T:Array Value}(hT:InH Ch v T){w:World}(hF:InO X N1 Ch cap wJ done (x::rest) v w):Qt Tryz.prog X Ch Fin (G ((base 113).at ⟨T,[]⟩ [.code ioB,.inLoop ioB,.inBlock 0,.code ioE]) cs) w:=by
 obtain⟨v0,v1,v2,v3,v4,v5,v6,v7,v8,v9,v10,v11,v12,v13,v14,v15,rfl⟩:=Kw T hT.sz
 obtain⟨_,t3,t5⟩:=hT
 simp only[Qhr,Qhq,Qhs,Option.some.injEq]at t3 t5
 subst t3 t5
 obtain⟨xi,rfl⟩:=hx
 simp only[ioB,ioE,Tryz.f113]at hH⊢
 refine QI (n:=20) ?_
 u_c stepG_seq InO.rely hF
 u_reg InO.rely hF
 refine Goes.stop (fun w1 h1=>?_)
 replace hF:=InO.rely hF h1
 clear h1
 obtain⟨b,s,r,tm,hb,hc⟩:=hF.ch
 refine .buf rfl (fun d=>OL (z:=.int .i64 0) (c:=Ch) (w1.at d) rfl rfl (by decide) (by simp[go_sem,rcase]) (by simp[go_sem])) hc (by rw[←Array.length_toList,hb];simp) (fun d=>?_)
 rw[Qau rfl]
 have hb0:b.getD 0 undef=.int .i64 xi:=by
  rw[Array.getD_eq_getD_getElem?,←Array.getElem?_toList,hb]
  rfl
 rw[hb0]
 have hb1:(b.extract 1 b.size).toList=rest:=by
  rw[Array.toList_extract,hb,←Array.length_toList,hb]
  simp
 obtain⟨w2,hw2⟩:∃w2,w2=(w1.at d).setChan Ch cap (b.extract 1 b.size) true s (r+1) tm:=⟨_,rfl⟩
 rw[←hw2]
 have hheap:∀k,k≠Ch→w2.heap[k]? =w1.heap[k]? :=fun k hk=>by
  rw[hw2]
  simp only[World.setChan]
  exact Array.getElem?_setIfInBounds_ne (Ne.symm hk)
 have hsz2:w2.heap.size=w1.heap.size:=by rw[hw2];simp[World.setChan];rfl
 have hF2:InO X N1 Ch cap wJ done rest v3 w2:=by
  refine⟨fun k h1 h2=>(hheap k h2).trans (hF.low k h1 h2),by rw[hsz2];exact hF.big,?_,⟨_,s,r+1,tm,hb1,?_⟩,hF.chl,hF.xs,by rw[hw2];exact hF.oo⟩
  ·obtain⟨h1,h2|⟨g,cp,cur,h2,h3,h4,h5⟩⟩:=hF.row
   ·exact⟨h1,.inl h2⟩
   ·exact⟨h1,.inr ⟨g,cp,cur,h2,h3,(hheap g (by have:=hF.chl;omega)).trans h4,h5⟩⟩
  ·rw[hw2]
   simp only[World.setChan]
   exact Array.getElem?_setIfInBounds_self_of_lt (Array.getElem?_eq_some_iff.1 hc).1
 clear hF hc hb hb0 hb1 hw2 hheap hsz2
 refine QI (n:=30) ?_
 walk_nrm
 u_op InO.rely hF2
 u_c stepG_region_end InO.rely hF2
 u_c stepG_seq InO.rely hF2
 u_cond true InO.rely hF2
 u_c stepG_skip InO.rely hF2
 u_c stepG_block InO.rely hF2
 u_c stepG_seq InO.rely hF2
 u_reg InO.rely hF2
 u_op InO.rely hF2
 u_op InO.rely hF2
 u_c stepG_region_end InO.rely hF2
 u_reg InO.rely hF2
 u_op InO.rely hF2
 u_op InO.rely hF2
 refine Goes.stop (fun w3 h3=>?_)
 replace hF2:=InO.rely hF2 h3
 clear h3
 refine ZK rfl (fun w4 h4=>?_)
 replace hF2:=InO.rely hF2 h4
 have hz4:w3.heap.size≤w4.heap.size:=by obtain⟨d,rfl⟩:=h4;exact Nat.le_refl _
 clear h4
 refine goes_oper_k rfl rfl (by decide) (fun K hK=>?_)
 go_simp
 refine hK _ _ ⟨⟨by simp;omega,fun B hB e he=>?_⟩,?_⟩
 ·have hm:=mem_listed he
  simp[go_sem]at hm
 clear hK K hz4
 obtain⟨bs,hbs⟩:∃bs,bs=w4.heap.size:=⟨_,rfl⟩
 have hbsN:N1≤bs:=by rw[hbs];exact hF2.big
 have hsrc:(w4.alloc (Obj.cells #[Qhp IntKind.i64 xi] 3)).heap[bs]? =some (.cells #[.int .i64 xi] 3):=by rw[hbs];exact heap_alloc_new w4 _
 have hF3:InO X N1 Ch cap wJ done rest v3 (w4.alloc (Obj.cells #[Qhp IntKind.i64 xi] 3)):=by
  have hal:∀k,k<w4.heap.size→(w4.alloc (Obj.cells #[Qhp IntKind.i64 xi] 3)).heap[k]? =w4.heap[k]? :=fun k hk=>Below.heap_alloc w4 _ k hk
  have hbg:=hF2.big
  refine⟨fun k h1 h2=>(hal k (by omega)).trans (hF2.low k h1 h2),by simp;omega,?_,?_,hF2.chl,hF2.xs,hF2.oo⟩
  ·obtain⟨h1,h2|⟨g,cp,cur,h2,h3,h4,h5⟩⟩:=hF2.row
   ·exact⟨h1,.inl h2⟩
   ·exact⟨h1,.inr ⟨g,cp,cur,h2,h3,(hal g (Array.getElem?_eq_some_iff.1 h4).1).trans h4,h5⟩⟩
  ·obtain⟨b,s,r,tm,h1,h2⟩:=hF2.ch
   exact⟨b,s,r,tm,h1,(hal Ch (by have:=hF2.chl;omega)).trans h2⟩
 rw[←hbs]
 generalize hw5:w4.alloc (Obj.cells #[Qhp IntKind.i64 xi] 3)=w5 at hsrc hF3
 clear hw5 hbs hF2
 refine ZK rfl (fun w6 h6=>?_)
 have hz6:w5.heap.size≤w6.heap.size:=by obtain⟨d,rfl⟩:=h6;exact Nat.le_refl _
 replace hF3:=InO.rely hF3 h6
 replace hsrc:w6.heap[bs]? =some (.cells #[.int .i64 xi] 3):=by obtain⟨d,rfl⟩:=h6;exact hsrc
 clear h6
 obtain⟨i0,hi,hz0,hz1,hz2⟩:∃i0,Tryz.prog.info? 3=some i0∧i0.zero=some (.int .i64 0)∧i0.size=1∧i0.bytes=8:=by
  have h:=QaT
  cases hx:Tryz.prog.info? 3 with
  |none=>rw[hx]at h;cases h
  |some i0=>
   rw[hx]at h
   simp only[Option.map_some,Option.some.injEq,Prod.mk.injEq]at h
   exact⟨i0,rfl,h.1,h.2.1,h.2.2⟩
 have hnews:∀j u,[Qhp .i64 xi][j]? =some u→w6.cell? ((⟨bs,0,none⟩:Addr).add j)=some u:=fun j u hu=>by
  match j,hu with
  |0,hu=>simp only[Qhq,Option.some.injEq]at hu;subst hu;simp[Addr.add,World.cell?,hsrc]
  |j+1,hu=>simp at hu
 have h1c:∀u∈[Qhp .i64 xi],u.oneCell'=true:=fun u hu=>by simp only[List.mem_singleton]at hu;subst hu;rfl
 obtain⟨v',w7,hr,hrow,hgr,_,hob⟩:=run_append_own_at (P:=Tryz.prog) w6 N1 24 24 3 i0 (.int .i64 0) 1 8 Tryz.underlying24 hi hz0 hz1 hz2 rfl (by omega) v3 done.length done hF3.row ⟨bs,0,none⟩ 1 1 [.int .i64 xi] rfl hnews h1c (by simp only[maxLen];omega) (by omega) hF3.big
 have hevs:=events_append_where (P:=Tryz.prog) w6 N1 24 24 3 i0 (.int .i64 0) 1 8 Tryz.underlying24 hi hz0 hz1 hz2 v3 done.length done hF3.row ⟨bs,0,none⟩ 1 1 [.int .i64 xi] rfl hnews h1c (by simp only[maxLen];omega) (by omega)
 have hown:=hF3.row.lt
 have hlt6:bs<w6.heap.size:=(Array.getElem?_eq_some_iff.1 hsrc).1
 refine goes_oper_k rfl rfl (by decide) (fun K hK=>?_)
 refine uponK_append _ _ 24 rfl rfl rfl hr (hK _ _ ⟨⟨by have:=hgr.size;omega,fun B hB e he=>?_⟩,?_⟩)
 ·have hm:=mem_listed he
  rw[events_append_op _ _ 24 rfl rfl rfl]at hm
  have hs7:=hgr.size
  rcases hevs e hm with⟨ad,h1,⟨_,h2⟩|h2⟩|⟨m,rfl,h2⟩
  ·unfold Ev
   rw[h1]
   exact⟨hF3.xs _ (by rw[h2];exact hbsN),by rw[h2];show bs<B;omega⟩
  ·have:=hown _ h2.symm
   unfold Ev
   rw[h1]
   exact⟨hF3.xs _ this.1,by omega⟩
  ·exact h2
 clear hK K hevs hr
 have hF4:InO X N1 Ch cap wJ (done++ [.int .i64 xi]) rest v' w7:=by
  have hbk:∀k,k<N1→w7.heap[k]? =w6.heap[k]? :=fun k hk=>hgr.block k (by have:=hF3.big;omega) fun e=>by have:=hown k e.symm;omega
  refine⟨fun k h1 h2=>(hbk k h1).trans (hF3.low k h1 h2),Nat.le_trans hF3.big hgr.size,by simpa using hrow,?_,hF3.chl,hF3.xs,OO.trans ⟨hgr.os,hgr.output⟩ hF3.oo⟩
  obtain⟨b,s,r,tm,h1,h2⟩:=hF3.ch
  exact⟨b,s,r,tm,h1,(hbk Ch hF3.chl).trans h2⟩
 clear hF3 hrow hgr hob hown hlt6 hsrc hnews h1c hi hz0 hz1 hz2
 refine QI (n:=20) ?_
 walk_nrm
 u_op InO.rely hF4
 u_c stepG_region_end InO.rely hF4
 u_c stepG_inBlock InO.rely hF4
 u_c stepG_inLoop InO.rely hF4
 exact Goes.stop (fun w9 h9=>hH _ v' ⟨rfl,rfl,rfl⟩ w9 (InO.rely hF4 h9))
end
noncomputable def Px:Array Oper:=match ioE with
 | .seq (.region _ ops _) _=>ops
 |_=>#[]
noncomputable def ioF:Code:=match ioE with
 | .seq _ e=>e
 |_=>.skip
noncomputable def Pc (T:Array Value):Frame:=(base 113).at ⟨T,[]⟩ [.inRegion Px [1],.code ioF]
def Vm (X:Nat→Bool)(N1 Ch cap:Nat)(wJ:World)(all:List Value)(cs:List Frame)(g:Goroutine)(w:World):Prop:=
 ∃T v,T.size=16∧T[3]? =some v∧g=G (Frame.enter Tryz.prog 146 #[v] .normal) (Pc T::cs)∧InO X N1 Ch cap wJ all [] v w
section
variable {X:Nat→Bool} {N1 Ch cap:Nat} {wJ:World} {cs:List Frame}
theorem Qcj {done:List Value}{v:Value}{T:Array Value}(hT:InH Ch v T){w:World}(hF:InO X N1 Ch cap wJ done [] v w):Qt Tryz.prog X Ch (Vm X N1 Ch cap wJ done cs) (G ((base 113).at ⟨T,[]⟩ [.code ioB,.inLoop ioB,.inBlock 0,.code ioE]) cs) w:=by
 obtain⟨v0,v1,v2,v3,v4,v5,v6,v7,v8,v9,v10,v11,v12,v13,v14,v15,rfl⟩:=Kw T hT.sz
 obtain⟨_,t3,t5⟩:=hT
 simp only[Qhr,Qhq,Qhs,Option.some.injEq]at t3 t5
 subst t3 t5
 simp only[ioB,ioE,Tryz.f113]
 refine QI (n:=20) ?_
 u_c stepG_seq InO.rely hF
 u_reg InO.rely hF
 refine Goes.stop (fun w1 h1=>?_)
 replace hF:=InO.rely hF h1
 clear h1
 obtain⟨b,s,r,tm,hb,hc⟩:=hF.ch
 obtain rfl:b=#[]:=by rw[←Array.toList_eq_nil_iff];exact hb
 refine .shut rfl (fun d=>OL (z:=.int .i64 0) (c:=Ch) (w1.at d) rfl rfl (by decide) (by simp[go_sem,rcase]) (by simp[go_sem])) hc (fun d=>?_)
 rw[Qau rfl]
 replace hF:=InO.rely hF ⟨d,rfl⟩
 clear hc hb
 refine QI (n:=30) ?_
 walk_nrm
 u_op InO.rely hF
 u_c stepG_region_end InO.rely hF
 u_c stepG_seq InO.rely hF
 u_cond false InO.rely hF
 u_exit InO.rely hF
 u_c stepG_seq InO.rely hF
 u_reg InO.rely hF
 u_op InO.rely hF
 u_in InO.rely hF
 refine goes_call rfl rfl (by decide) rfl Tryz.func146 rfl rfl ⟨by u_nil,?_⟩
 rw[←enter_at _ Tryz.func146 rfl]
 simp only[List.map_toArray,List.map_cons,List.map_nil,Act.eval,Array.getD_eq_getD_getElem?,Qhr,Qhs,Qhq,Option.getD_some]
 exact Goes.stop (fun w9 h9=>.stop ⟨_,v3,rfl,rfl,rfl,InO.rely hF h9⟩)
theorem Qbd:∀(rest done:List Value),(∀u∈rest,∃i:Int,u=.int .i64 i)→done.length+rest.length<1000000→∀T v,InH Ch v T→∀w,InO X N1 Ch cap wJ done rest v w→
 Qt Tryz.prog X Ch (Vm X N1 Ch cap wJ (done++rest) cs) (G ((base 113).at ⟨T,[]⟩ [.code ioB,.inLoop ioB,.inBlock 0,.code ioE]) cs) w
 | [],done,_,_,T,v,hT,w,hF=>by
   rw[List.append_nil]
   exact Qcj hT hF
 |x::rest,done,hi,hn,T,v,hT,w,hF=>by
  simp only[List.length_cons]at hn
  refine QeJ (by omega) (hi x List.mem_cons_self) (fun T v hT w hF=>?_) hT hF
  have:=Qbd rest (done++ [x]) (fun u hu=>hi u (List.mem_cons_of_mem _ hu)) (by simp;omega) T v hT w hF
  rwa[List.append_assoc,List.singleton_append]at this
theorem QcP {all:List Value}(hi:∀u∈all,∃i:Int,u=.int .i64 i)(hn:all.length<1000000){w:World}(hF:InO X N1 Ch cap wJ [] all (.slice none 0 0) w):
 Qt Tryz.prog X Ch (Vm X N1 Ch cap wJ all cs) (G (Frame.enter Tryz.prog 113 #[.chan (some Ch)] .normal) cs) w:=by
 rw[enter_at _ Tryz.func113 rfl]
 refine QI (n:=30) ?_
 simp only[Tryz.f113]
 walk_nrm
 u_c stepG_seq InO.rely hF
 u_reg InO.rely hF
 u_op InO.rely hF
 u_c stepG_region_end InO.rely hF
 u_c stepG_seq InO.rely hF
 u_reg InO.rely hF
 u_op InO.rely hF
 u_c stepG_region_end InO.rely hF
 u_c stepG_seq InO.rely hF
 u_c stepG_seq InO.rely hF
 u_reg InO.rely hF
 u_op InO.rely hF
 u_c stepG_region_end InO.rely hF
 u_c stepG_block InO.rely hF
 u_c stepG_loop InO.rely hF
 refine Goes.stop (fun w9 h9=>?_)
 exact Qbd all [] hi (by simpa using hn) _ (.slice none 0 0) ⟨rfl,rfl,rfl⟩ w9 (InO.rely hF h9)
end
end Co
section
open Go.RowKit
theorem Jx:(Cut.prog.info? 40).map (fun i=>(i.zero,i.size,i.bytes))=some (some (.agg #[.int .i64 0,.int .i64 0]),2,16):=by kernel_rfl
theorem YZ:(Cut.prog.info? 37).map (fun i=>(i.zero,i.size,i.bytes))=some (some (.agg #[.int .i64 0,.string ⟨#[]⟩,.slice none 0 0]),3,48):=by kernel_rfl
def JG (w:World)(B:Nat)(l:List Ob):Prop:=∀i (hi:i<l.length),∃g,l[i].ra=some ⟨g,0,none⟩∧B≤g∧l[i].rcap=l[i].r.length∧Blk w g (l[i].r.map (Qhp .i64)) 3
theorem JG.below {w w':World}{B C:Nat}{l:List Ob}(h:JG w B l)(hb:Below C w w')(hC:w.heap.size≤C):JG w' B l:=fun i hi=>by
 obtain⟨g,h1,h2,h3,h4⟩:=h i hi
 exact⟨g,h1,h2,h3,h4.below hb (Nat.lt_of_lt_of_le h4.lt hC)⟩
theorem JG.store {w:World}{B:Nat}{l:List Ob}(h:JG w B l)(p:Addr)(v:Value)(hp:p.block<B):JG (w.setCell p v) B l:=fun i hi=>by
 obtain⟨g,h1,h2,h3,h4⟩:=h i hi
 exact⟨g,h1,h2,h3,h4.other p v (by omega)⟩
theorem JG.snoc {w:World}{B:Nat}{l:List Ob}(h:JG w B l)(o:Ob)(g:Nat)(h1:o.ra=some ⟨g,0,none⟩)(h2:B≤g)(h3:o.rcap=o.r.length)(h4:Blk w g (o.r.map (Qhp .i64)) 3):JG w B (l++ [o]):=fun i hi=>by
 by_cases hl:i<l.length
 ·simpa[List.getElem_append_left hl]using h i hl
 ·have e:i=l.length:=by simp at hi;omega
  subst e
  simpa using⟨g,h1,h2,h3,h4⟩
theorem JG.seg {w:World}{B:Nat}{l:List Ob}(h:JG w B l)(i:Nat)(hi:i<l.length):Qk w l[i].ra l[i].r:=by
 obtain⟨g,h1,_,_,h4⟩:=h i hi
 rw[h1]
 exact h4.segI
def Hp.p (h:Hp):List (Int×ByteArray×List Int)×List Int×List (Int×Int)×List (Int×Int):=(h.os.map Ob.p,h.rs,h.ws,h.ds)
structure Ot (w:World) (B:Nat) (h:Hp) (go gr gw gd:Nat):Prop where
 oa:h.oa=some ⟨go,0,none⟩
 ocap:h.ocap=h.os.length
 ra:h.ra=some ⟨gr,0,none⟩
 rcap:h.rcap=h.rs.length
 wa:h.wa=some ⟨gw,0,none⟩
 wcap:h.wcap=h.ws.length
 da:h.da=some ⟨gd,0,none⟩
 dcap:h.dcap=h.ds.length
 le:B≤go
 lt1:go<gr
 lt2:gr<gw
 lt3:gw<gd
 bo:Blk w go (h.os.flatMap Ob.cs) 37
 own:JG w (go+1) h.os
 olt:∀i (hi:i<h.os.length) (g:Nat),h.os[i].ra=some ⟨g,0,none⟩→g<gr
 br:Blk w gr (h.rs.map (Qhp .i64)) 3
 bw:Blk w gw (h.ws.flatMap wc) 40
 bd:Blk w gd (h.ds.flatMap wc) 40
theorem Ot.isIn {w:World}{B go gr gw gd:Nat}{h:Hp}(hh:Ot w B h go gr gw gd):Qg w h:=by
 refine⟨?_,?_,?_,?_⟩
 ·rw[hh.oa];exact hh.bo.segO (fun i hi=>hh.own.seg i hi)
 ·rw[hh.ra];exact hh.br.segI
 ·rw[hh.wa];exact hh.bw.segW
 ·rw[hh.da];exact hh.bd.segW
def inB (n lo hi:Int):Bool:=decide (lo≤n)&&decide (n≤hi)
def Zi (c:UInt8):Bool:=(decide (97≤c.toNat)&&decide (c.toNat≤122))||(decide (48≤c.toNat)&&decide (c.toNat≤57))
def Zo (t:ByteArray):Bool:=decide (1≤t.size)&&decide (t.size≤12)&&t.data.toList.all Zi
def QV (most:Int)(r:List Int):Bool:=r.all fun z=>inB z (-1) (most-1)
def QR (k:Int)(t:ByteArray)(n:Nat):Bool:=
 if k=1 then Zo t&&decide (n=0)
 else if k=2 then decide (t.size=0)&&decide (n≤6)
 else if k=3 then decide (t.size=0)&&decide (n=2)
 else if k=4 then decide (t.size=0)&&decide (n=0)
 else false
def Qs (most:Int)(o:Int×ByteArray×List Int):Bool:=QV most o.2.2&&QR o.1 o.2.1 o.2.2.length
def Qp (os:List (Int×ByteArray×List Int))(p:Int×Int):Bool:=
 inB p.1 0 (os.length-1)&&inB p.2 0 (os.length-1)&&decide ((os[p.1.toNat]?.map fun o=>o.1)=some 4)
def okP (x:List (Int×ByteArray×List Int)×List Int×List (Int×Int)×List (Int×Int)):Bool:=
 (decide (x.1.length≤60)&&decide (x.2.1.length≤8)&&decide (x.2.2.1.length+x.2.2.2.length≤20))&&
 (x.1.all (Qs x.1.length)&&(QV x.1.length x.2.1&&(x.2.2.1.all (Qp x.1)&&x.2.2.2.all (Qp x.1))))
theorem J7 {α:Type}{l:List α}{f:α→Bool}(h:∀i (hi:i<l.length),f l[i]=true):l.all f=true:=by
 rw[List.all_eq_true]
 intro x hx
 obtain⟨i,hi,rfl⟩:=List.getElem_of_mem hx
 exact h i hi
theorem JA {α:Type}{l:List α}{f:α→Bool}{k:Nat}(hk:k<l.length)(h:f l[k]=false):l.all f=false:=by
 cases hx:l.all f with
 |false=>rfl
 |true=>rw[List.all_eq_true]at hx;rw[hx _ (List.getElem_mem hk)]at h;simp at h
theorem J2 {α:Type}{l:List α}{f:α→Bool}{k:Nat}(h:∀i (hi:i<l.length),i<k→f l[i]=true)(hk:k<l.length)(hf:f l[k]=true):∀i (hi:i<l.length),i<k+1→f l[i]=true:=fun i hi hik=>by
 by_cases e:i=k
 ·subst e;exact hf
 ·exact h i hi (by omega)
theorem Vd {t:ByteArray}(h:t.toList=[]):t.size=0:=by
 rw[ByteArray.toList_eq]at h
 have:=congrArg List.length h
 simpa using this
theorem Vg {t:ByteArray}(h:t.size=0):t.toList=[]:=by
 rw[ByteArray.toList_eq]
 exact List.eq_nil_of_length_eq_zero (by simpa using h)
theorem Qx {a b:Bool}(h:a=b):Ending.returned (.bool a)=.returned (.bool b):=by rw[h]
theorem Qae (n m:Nat):((n:Int)==(m:Int))=decide (n=m):=by
 rw[Bool.eq_iff_iff];simp;omega
theorem Yp (n:Nat):((n:Int)==0)=decide (n=0):=Qae n 0
theorem Qai (n:Nat):((n:Int)==2)=decide (n=2):=Qae n 2
theorem Qgk (n:Nat):decide ((n:Int)≤6)=decide (n≤6):=by
 rw[Bool.eq_iff_iff];simp;omega
end
end Go.Proofs.YtcpnkpogebjieaaGreat
