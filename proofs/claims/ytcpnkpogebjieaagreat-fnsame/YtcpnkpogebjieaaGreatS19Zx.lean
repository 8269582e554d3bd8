/- A teller, in company: the way out of tell's loop to Done; its birth; its whole script. -/
import Derived.Test.YtcpnkpogebjieaaGreatS18Zu
import Derived.Test.YtcpnkpogebjieaaGreatS07Za
import Derived.Test.YtcpnkpogebjieaaGreatS08Zw
open Array renaming getElem?_eq_getElem→QhR
set_option maxRecDepth 100000
set_option maxHeartbeats 2000000
namespace Go.Proofs.YtcpnkpogebjieaaGreat
namespace Co
open Go.Conc Go.ConcN Go.RowKit Go.Conc.Lib Go.ConcR.Gen Go.ConcN.Gen
open Go.ConcR (KK wgBlock WgAt stA smA rd wr mk Payload Aside2 DC0 ofEvent_cell)
set_option linter.unusedSimpArgs false
noncomputable def Qam:Array Oper:=match Tryz.f109.body with
 |some (.seq _ (.region _ ops _))=>ops
 |_=>#[]
noncomputable def bot:Frame:={(default:Frame)with fn:=Tryz.prog.funcs.size,defers:=[],mode:=.panicking [goexitEntry]}
noncomputable def Pa (Wg:Nat)(T:Array Value):Frame:=(baseD 109).at ⟨T,[dcall 110 #[.pointer (some ⟨Wg,0,none⟩)]]⟩ [.inRegion Qam [5]]
theorem Qf7 (T:Array Value):QuitsD Tryz.prog 2 0 (G {(baseD 109).at ⟨T,[]⟩ []with mode:=.returning} [bot]):=by
 refine QuitsD.ctl (g':=G bot []) rfl (fun w=>?_) ?_
 ·simp[G,stepG,unwind,doReturn,results,Frame.at,baseD,bot,Tryz.func109,Tryz.f109,seen,GStep.after,goexitEntry]
 refine QuitsD.ctl (g':={G bot []with status:=.finished}) rfl (fun w=>?_) ⟨rfl,rfl⟩;simp[G,stepG,unwind,bot,goexitEntry,Frame.catches];rfl
section
variable [Payload] {S:Ph} {w0:World} {bh bw bt:Nat} {wa:Option Addr} {wcap:Nat} {ws:List (Int×Int)} {gW:Nat} {wh:List Int}
theorem Qhh {bp:Nat}(hP:S.P=Tryz.prog)(hty:S.ty=Tryz.link.tWg){pv:Int}{TL:Array Value}
 {T:Array Value}(hT:LH S pv wa ws.length wcap gW wh.length ws.length T){own:List Nat}{w:World}(hp:bp∈own)(hF:TF S w0 bp pv w):
 Ug S 0 own [] (G ((base 111).at ⟨T,[]⟩ [.code Yb,.inLoop Yb,.inBlock 0]) [Pa S.Wg TL,bot]) w:=by
 obtain⟨v0,v1,v2,v3,v4,v5,v6,v7,v8,v9,v10,v11,v12,v13,v14,v15,v16,v17,v18,v19,v20,v21,v22,v23,v24,v25,v26,v27,v28,v29,v30,v31,rfl⟩:=P3 T hT.sz;obtain⟨_,t0,t2,t3,t10,t11,t12⟩:=hT;simp only[List.getElem?_toArray,List.getElem?_cons_zero,List.getElem?_cons_succ,Option.some.injEq]at t0 t2 t3 t10 t11 t12;subst t0 t2 t3 t10 t11 t12;refine⟨rfl,.inl ?_⟩;rw[hP];simp only[Yb,Tryz.f111];rw[stepG_seq];simp only[goes_go];refine⟨own,Zf.refl own w,by simp,rfl,bp,.int .i64 pv,34,hp,?_⟩;rw[hP,hty];have hK:WgLive Tryz.link.tWg S.Wg w∧Has bp 0 (.int .i64 pv) w:=⟨hty▸hF.live,hF.pl⟩;clear hF;u_reg kn_rely hK;u_op kn_rely hK;u_c stepG_region_end kn_rely hK;u_c stepG_seq kn_rely hK
 u_cond false kn_rely hK
 u_exit kn_rely hK
 u_c stepG_end kn_rely hK;simp only[Pa,Qam,Tryz.f109]
 u_leave0 Tryz.func111 kn_rely hK
 u_c stepG_region_end kn_rely hK;u_c stepG_end kn_rely hK;u_in kn_rely hK;rw[stepG_unwind_enter rfl Tryz.func110 (nm_done Tryz.link) rfl];simp only[goes_go];refine⟨by u_nil,?_⟩
 walk_nrmf Tryz.f110
 have hA:=@doneN _ Tryz.link Tryz.prog Tryz.wgLib (OwC bp) Kj S.Wg bp 1 0 1 (.int .i64 pv);simp only[body_done,doneFn,Option.getD_some]at hA;exact hA rfl (Qf7 _) _ hK
theorem Qbn {bp:Nat}(hP:S.P=Tryz.prog)(hty:S.ty=Tryz.link.tWg)(hSB:∀b,S.SB b→(b<S.Low∧b≠S.Wg∧b≠S.Ch)∨b=S.Wg∨b=bp)(hD:Dat S w0 bh bw bt wa wcap ws gW wh){pv:Int}{TL:Array Value}:
 ∀(l:List (Int×Int)) (k:Nat),ws.drop k=l→k≤ws.length→∀T,LH S pv wa ws.length wcap gW wh.length k T→∀own w,bp∈own→TF S w0 bp pv w→
  Ug S (hs pv wh l) own (Jy pv wh k l) (G ((base 111).at ⟨T,[]⟩ [.code Yb,.inLoop Yb,.inBlock 0]) [Pa S.Wg TL,bot]) w
 | [],k,hl,hk,T,hT,own,w,hp,hF=>by
   have:k=ws.length:=by
    have:=congrArg List.length hl;simp at this;omega
   subst this;exact Qhh hP hty hT hp hF
 |x::l,k,hl,hk,T,hT,own,w,hp,hF=>by
  have hlt:k<ws.length:=by
   have:=congrArg List.length hl;simp at this;omega
  have hx:ws[k]=x∧ws.drop (k+1)=l:=by
   rw[List.drop_eq_getElem_cons hlt]at hl;exact⟨(List.cons.inj hl).1,(List.cons.inj hl).2⟩
  have ih:=Qbn hP hty hSB hD (pv:=pv) (TL:=TL) l (k+1) hx.2 (by omega);refine Qhi hP hSB hD hlt (x:=x.1) (y:=x.2) (z:=wh.getD x.2.toNat 0) (by rw[hx.1]) (by rw[hx.1]) rfl (s:=hs pv wh l) (left:=Jy pv wh (k+1) l) (fun h=>?_) (fun h h'=>?_) (fun h h'=>?_) (fun T hT own w hp hF=>ih T hT own w hp hF) hT hp hF
  ·have e:JA pv wh x=false:=by unfold JA;rw[decide_eq_false h];rfl
   exact⟨if_neg h,by simp only[Jy,e];rfl⟩
  ·have e:JA pv wh x=true:=by unfold JA;rw[decide_eq_true h,decide_eq_true h'];rfl
   exact⟨by rw[if_pos h,if_pos h'],by simp only[Jy,e];rfl⟩
  ·have e:JA pv wh x=false:=by unfold JA;rw[decide_eq_true h,decide_eq_false h'];rfl
   exact⟨by rw[if_pos h,if_neg h'],by simp only[Jy,e];rfl⟩
def Yn (Wg bp bh bw bt:Nat):Deferred:={target:=.fn (.func 109) #[.pointer (some ⟨Wg,0,none⟩),.pointer (some ⟨bp,0,none⟩),.pointer (some ⟨bh,0,none⟩),.pointer (some ⟨bw,0,none⟩),.pointer (some ⟨bt,0,none⟩)],args:=#[]}
noncomputable def Pb:Code:=Tryz.f109.body.getD .skip
omit [Payload]in
theorem Qcm (Wg bp bh bw bt:Nat)(w:World):stepG Tryz.prog false (born Tryz.prog (Yn Wg bp bh bw bt)) w=
 .go (G ((baseD 109).at ⟨#[.pointer (some ⟨Wg,0,none⟩),.pointer (some ⟨bp,0,none⟩),.pointer (some ⟨bh,0,none⟩),.pointer (some ⟨bw,0,none⟩),.pointer (some ⟨bt,0,none⟩),undef,undef,undef,undef,undef,undef],[]⟩ [.code Pb]) [bot]) w #[]:=by
 simp[born,Yn,stepG,unwind,callDeferred,invoke,callFunc,Tryz.func109,Tryz.f109,seen,GStep.after,G,Frame.enter,Frame.at,baseD,bot,Pb]
theorem Qbo {bp:Nat}(hP:S.P=Tryz.prog)(hty:S.ty=Tryz.link.tWg)(hSB:∀b,S.SB b→(b<S.Low∧b≠S.Wg∧b≠S.Ch)∨b=S.Wg∨b=bp)(hpS:¬S.SB bp)(hD:Dat S w0 bh bw bt wa wcap ws gW wh){pv:Int}{own:List Nat}{w:World}(hp:bp∈own)(hF:TF S w0 bp pv w):
 Jp S (hs pv wh ws+1+4) own (Jy pv wh 0 ws) (born Tryz.prog (Yn S.Wg bp bh bw bt)) w:=by
 rw[Jo,hP];refine⟨20,Goes.step rfl fun w₁ h₁=>?_⟩;replace hF:=TF.rely hp hF h₁;clear h₁;rw[Qcm];refine⟨by u_nil,?_⟩;simp only[Pb,Tryz.f109,Option.getD_some];u_c stepG_seq (TF.rely hp) hF;u_reg (TF.rely hp) hF
 u_defer (TF.rely hp) hF
 u_c stepG_region_end (TF.rely hp) hF;u_reg (TF.rely hp) hF;refine Goes.stop (fun w1 hw1=>?_);replace hF:=TF.rely hp hF hw1;clear hw1;refine⟨rfl,.inl ?_⟩;rw[hP];refine goes_oper_k rfl rfl (by decide) (fun K hK=>?_);have e1:=hF.pl;go_simp;refine hK _ _ ⟨own,Zf.refl _ _,fun e he=>?_,?_⟩
 ·have hm:=mem_listed he;simp[go_sem,e1]at hm;subst hm;exact⟨_,_,rfl,hpS,.inl hp⟩
 clear e1 hK K;rw[Jo,hP];refine⟨20,?_⟩;u_op (TF.rely hp) hF;refine Goes.stop (fun w1 hw1=>?_);replace hF:=TF.rely hp hF hw1;clear hw1;refine⟨rfl,.inl ?_⟩;rw[hP];refine goes_oper_k rfl rfl (by decide) (fun K hK=>?_);have e1:=(hF.cell hD.ohb 2).trans hD.hb;go_simp;refine hK _ _ ⟨own,Zf.refl _ _,fun e he=>?_,?_⟩
 ·have hm:=mem_listed he;simp[go_sem,e1]at hm;subst hm;exact⟨_,_,rfl,hD.ohb.2.2.2,.inr ⟨hD.ohb.1,rfl⟩⟩
 clear e1 hK K;rw[Jo,hP];refine⟨20,?_⟩;refine Goes.stop (fun w1 hw1=>?_);replace hF:=TF.rely hp hF hw1;clear hw1;refine⟨rfl,.inl ?_⟩;rw[hP];refine goes_oper_k rfl rfl (by decide) (fun K hK=>?_);have e1:=(hF.cell hD.owb 0).trans hD.wb;go_simp;refine hK _ _ ⟨own,Zf.refl _ _,fun e he=>?_,?_⟩
 ·have hm:=mem_listed he;simp[go_sem,e1]at hm;subst hm;exact⟨_,_,rfl,hD.owb.2.2.2,.inr ⟨hD.owb.1,rfl⟩⟩
 clear e1 hK K;rw[Jo,hP];refine⟨20,?_⟩;refine Goes.stop (fun w1 hw1=>?_);replace hF:=TF.rely hp hF hw1;clear hw1;refine⟨rfl,.inl ?_⟩;rw[hP];refine goes_oper_k rfl rfl (by decide) (fun K hK=>?_);have e1:=(hF.cell hD.otb 0).trans hD.tb;go_simp;refine hK _ _ ⟨own,Zf.refl _ _,fun e he=>?_,?_⟩
 ·have hm:=mem_listed he;simp[go_sem,e1]at hm;subst hm;exact⟨_,_,rfl,hD.otb.2.2.2,.inr ⟨hD.otb.1,rfl⟩⟩
 clear e1 hK K;rw[Jo,hP];refine⟨20,?_⟩
 u_call Tryz.func111 rfl Tryz.f111 (TF.rely hp) hF
 u_c stepG_seq (TF.rely hp) hF;u_reg (TF.rely hp) hF;u_op (TF.rely hp) hF;u_op (TF.rely hp) hF;u_op (TF.rely hp) hF;u_c stepG_region_end (TF.rely hp) hF;u_c stepG_block (TF.rely hp) hF;u_c stepG_loop (TF.rely hp) hF;exact Goes.stop (fun w9 h9=>Qbn hP hty hSB hD ws 0 rfl (Nat.zero_le _) _ ⟨rfl,rfl,rfl,rfl,rfl,rfl,rfl⟩ _ _ hp (TF.rely hp hF h9))
end
noncomputable def Jc:Code:=match Tryz.f81.body with
 |some (.seq _ (.seq _ (.seq _ (.seq _ (.seq _ (.seq (.seq _ (.block _ (.loop b))) _))))))=>b
 |_=>.skip
noncomputable def Ya:Code:=match Tryz.f81.body with
 |some (.seq _ (.seq _ (.seq _ (.seq _ (.seq _ (.seq (.seq _ (.block _ (.loop _))) e))))))=>e
 |_=>.skip
theorem UJ (T:Array Value)(h:T.size=40):∃v0 v1 v2 v3 v4 v5 v6 v7 v8 v9 v10 v11 v12 v13 v14 v15 v16 v17 v18 v19 v20 v21 v22 v23 v24 v25 v26 v27 v28 v29 v30 v31 v32 v33 v34 v35 v36 v37 v38 v39,T=#[v0,v1,v2,v3,v4,v5,v6,v7,v8,v9,v10,v11,v12,v13,v14,v15,v16,v17,v18,v19,v20,v21,v22,v23,v24,v25,v26,v27,v28,v29,v30,v31,v32,v33,v34,v35,v36,v37,v38,v39]:=by
 obtain⟨l⟩:=T;simp only[List.size_toArray]at h;rcases l with _|⟨v0,l⟩
 ·simp at h
 rcases l with _|⟨v1,l⟩
 ·simp at h
 rcases l with _|⟨v2,l⟩
 ·simp at h
 rcases l with _|⟨v3,l⟩
 ·simp at h
 rcases l with _|⟨v4,l⟩
 ·simp at h
 rcases l with _|⟨v5,l⟩
 ·simp at h
 rcases l with _|⟨v6,l⟩
 ·simp at h
 rcases l with _|⟨v7,l⟩
 ·simp at h
 rcases l with _|⟨v8,l⟩
 ·simp at h
 rcases l with _|⟨v9,l⟩
 ·simp at h
 rcases l with _|⟨v10,l⟩
 ·simp at h
 rcases l with _|⟨v11,l⟩
 ·simp at h
 rcases l with _|⟨v12,l⟩
 ·simp at h
 rcases l with _|⟨v13,l⟩
 ·simp at h
 rcases l with _|⟨v14,l⟩
 ·simp at h
 rcases l with _|⟨v15,l⟩
 ·simp at h
 rcases l with _|⟨v16,l⟩
 ·simp at h
 rcases l with _|⟨v17,l⟩
 ·simp at h
 rcases l with _|⟨v18,l⟩
 ·simp at h
 rcases l with _|⟨v19,l⟩
 ·simp at h
 rcases l with _|⟨v20,l⟩
 ·simp at h
 rcases l with _|⟨v21,l⟩
 ·simp at h
 rcases l with _|⟨v22,l⟩
 ·simp at h
 rcases l with _|⟨v23,l⟩
 ·simp at h
 rcases l with _|⟨v24,l⟩
 ·simp at h
 rcases l with _|⟨v25,l⟩
 ·simp at h
 rcases l with _|⟨v26,l⟩
 ·simp at h
 rcases l with _|⟨v27,l⟩
 ·simp at h
 rcases l with _|⟨v28,l⟩
 ·simp at h
 rcases l with _|⟨v29,l⟩
 ·simp at h
 rcases l with _|⟨v30,l⟩
 ·simp at h
 rcases l with _|⟨v31,l⟩
 ·simp at h
 rcases l with _|⟨v32,l⟩
 ·simp at h
 rcases l with _|⟨v33,l⟩
 ·simp at h
 rcases l with _|⟨v34,l⟩
 ·simp at h
 rcases l with _|⟨v35,l⟩
 ·simp at h
 rcases l with _|⟨v36,l⟩
 ·simp at h
 rcases l with _|⟨v37,l⟩
 ·simp at h
 rcases l with _|⟨v38,l⟩
 ·simp at h
 rcases l with _|⟨v39,l⟩
 ·simp at h
 obtain rfl:l=[]:=by
  cases l with
  |nil=>rfl
  |cons=>simp at h
 exact⟨v0,v1,v2,v3,v4,v5,v6,v7,v8,v9,v10,v11,v12,v13,v14,v15,v16,v17,v18,v19,v20,v21,v22,v23,v24,v25,v26,v27,v28,v29,v30,v31,v32,v33,v34,v35,v36,v37,v38,v39,rfl⟩
structure DH (Wg bh bw bt:Nat) (xa:Option Addr) (n xcap:Nat) (i:Nat) (T:Array Value):Prop where
 sz:T.size=40
 t1:T[1]? =some (.pointer (some ⟨bh,0,none⟩))
 t4:T[4]? =some (.pointer (some ⟨bw,0,none⟩))
 t5:T[5]? =some (.pointer (some ⟨bt,0,none⟩))
 t6:T[6]? =some (.pointer (some ⟨Wg,0,none⟩))
 t20:T[20]? =some (.slice xa n xcap)
 t21:T[21]? =some (.int .i64 n)
 t22:T[22]? =some (.int .i64 i)
structure CF (S:Ph) (w0:World) (own:List Nat) (w:World):Prop where
 low:∀b,b<S.Low→b≠S.Wg→b≠S.Ch→w.heap[b]? =w0.heap[b]?
 live:WgLive S.ty S.Wg w
 owk:∀b,b∈own→b<w.heap.size
theorem CF.rely {S:Ph}{w0:World}{own:List Nat}{w w1:World}(h:CF S w0 own w)(r:RK S own w w1):CF S w0 own w1:=
 ⟨fun b h1 h2 h3=>(r.low b h1 h2 h3).trans (h.low b h1 h2 h3),r.live h.live,fun b hb=>by
   have:=r.own b hb;rw[QhR (h.owk b hb)]at this
   exact(Array.getElem?_eq_some_iff.1 this).1⟩
theorem CF.cell {S:Ph}{w0:World}{own:List Nat}{w:World}(h:CF S w0 own w){b:Nat}(hb:Okb S b)(o:Nat):w.cell? ⟨b,o,none⟩=w0.cell? ⟨b,o,none⟩:=cell_of_block (h.low b hb.1 hb.2.1 hb.2.2.1) o
theorem CF.lt {S:Ph}{w0:World}{own:List Nat}{w:World}(hbig:S.Low≤w0.heap.size)(h:CF S w0 own w){b:Nat}(hb:(b<S.Low∧b≠S.Wg∧b≠S.Ch)∨b=S.Wg):b<w.heap.size:=by
 rcases hb with⟨h1,h2,h3⟩|rfl
 ·have:=h.low b h1 h2 h3;rw[QhR (show b<w0.heap.size by omega)]at this;exact(Array.getElem?_eq_some_iff.1 this).1
 ·obtain⟨st,sm,hl⟩:=h.live;exact(Array.getElem?_eq_some_iff.1 hl).1
structure CX (S:Ph) (w0:World) (own:List Nat) (bp:Nat) (p:Int) (w:World):Prop where
 low:∀b,b<S.Low→b≠S.Wg→b≠S.Ch→w.heap[b]? =w0.heap[b]?
 live:WgLive S.ty S.Wg w
 owk:∀b,b∈own→b<w.heap.size
 bk:w.heap[bp]? =some (.cells #[.int .i64 p] 3)
 ne:∀b,(b<S.Low∧b≠S.Wg∧b≠S.Ch)∨b=S.Wg→b≠bp
 ns:¬S.SB bp
 ni:bp∉own
section
variable {S:Ph} {w0:World} {own:List Nat} {bp:Nat} {p:Int} {w w1:World}
theorem CX.rely (h:CX S w0 own bp p w)(r:RK S (bp::own) w w1):CX S w0 own bp p w1:=
 ⟨fun b h1 h2 h3=>(r.low b h1 h2 h3).trans (h.low b h1 h2 h3),r.live h.live,fun b hb=>by
   have:=r.own b (List.mem_cons_of_mem _ hb);rw[QhR (h.owk b hb)]at this
   exact(Array.getElem?_eq_some_iff.1 this).1,(r.own bp List.mem_cons_self).trans h.bk,h.ne,h.ns,h.ni⟩
theorem CX.cell (h:CX S w0 own bp p w){b:Nat}(hb:Okb S b)(o:Nat):w.cell? ⟨b,o,none⟩=w0.cell? ⟨b,o,none⟩:=cell_of_block (h.low b hb.1 hb.2.1 hb.2.2.1) o
theorem CX.c0 (h:CX S w0 own bp p w):w.cell? ⟨bp,0,none⟩=some (.int .i64 p):=by simp[World.cell?,h.bk]
theorem CX.f0 (h:CX S w0 own bp p w):w.frozen? ⟨bp,0,none⟩=false:=by simp[World.frozen?,h.bk]
theorem CX.cf (h:CX S w0 own bp p w):CF S w0 (bp::own) w:=⟨h.low,h.live,fun b hb=>by
 rcases List.mem_cons.1 hb with rfl|hb
 ·exact(Array.getElem?_eq_some_iff.1 h.bk).1
 ·exact h.owk b hb⟩
theorem CX.cf0 (h:CX S w0 own bp p w):CF S w0 own w:=⟨h.low,h.live,h.owk⟩
theorem CX.tf (h:CX S w0 own bp p w):TF S w0 bp p w:=⟨h.low,h.live,h.c0⟩
theorem CX.set {p':Int}(h:CX S w0 own bp p w):CX S w0 own bp p' (w.setCell ⟨bp,0,none⟩ (.int .i64 p')):=by
 have hb:Blk w bp [.int .i64 p] 3:=h.bk;have hs:∀b,b≠bp→(w.setCell ⟨bp,0,none⟩ (.int .i64 p')).heap[b]? =w.heap[b]? :=fun b hb=>Below.heap_setCell _ _ _ _ hb;exact⟨fun b h1 h2 h3=>(hs b (h.ne b (.inl ⟨h1,h2,h3⟩))).trans (h.low b h1 h2 h3),let⟨st,sm,hl⟩:=h.live;⟨st,sm,hl.of_block (hs _ (h.ne _ (.inr rfl)))⟩,fun b hb=>by have:=h.owk b hb;simpa using this,hb.store 0 (.int .i64 p'),h.ne,h.ns,h.ni⟩
theorem Qhx (hx:bp∈own)(v:Value):Zf own own w (w.setCell ⟨bp,0,none⟩ v):=
 ⟨fun b _ hb=>Below.heap_setCell _ _ _ _ (fun e=>hb (e▸hx)),.inl ⟨rfl,by simp⟩,⟨rfl,rfl⟩⟩
end
structure Vd (S:Ph) (w0:World) (bh:Nat) (xa:Option Addr) (X:List Int) (oa:Option Addr) (ocap:Nat) (ks:List Int):Prop where
 ohb:Okb S bh
 hb:w0.cell? ⟨bh,0,none⟩=some (.slice oa ks.length ocap)
 sx:∀i (h:i<X.length),∃b off,xa=some ⟨b,off,none⟩∧Okb S b∧w0.cell? ⟨b,off+i,none⟩=some (.int .i64 X[i])
 so:∀i (h:i<ks.length),∃b off,oa=some ⟨b,off,none⟩∧Okb S b∧w0.cell? ⟨b,off+i*3,none⟩=some (.int .i64 ks[i])
 inr:∀i (h:i<X.length),0≤X[i]∧X[i]<(ks.length:Int)
 big:S.Low≤w0.heap.size
 nx:(X.length:Int)<1000000
 nk:(ks.length:Int)<1000000
theorem YM {S:Ph}{own:List Nat}{Stop1 Stop2:Goroutine→World→Prop}{k:Nat}:∀ {n:Nat} {g:Goroutine} {w:World},Goes S.P true (RL S.ty S.Wg) DC0 Stop1 n g w→
 (∀g' w',(∀w'',RL S.ty S.Wg w' w''→Stop1 g' w'')→RK S own w w'→Goes S.P true (RK S own) DC0 Stop2 k g' w')→Goes S.P true (RK S own) DC0 Stop2 (n+k) g w
 |0,g,w,h,hk=>by rw[Nat.zero_add];exact hk g w h (RK.refl S own w)
 |n+1,g,w,h,hk=>by
  rcases h with h|⟨hs,h⟩
  ·exact Goes.mono (hk g w h (RK.refl S own w)) (by omega)
  ·rw[show n+1+k=n+k+1 by omega];refine Goes.step hs fun w1 h1=>?_;have h2:=h w1 h1.rl;obtain⟨g',w',es,hgo,⟨rfl,rfl⟩,hg⟩:=goes_elim h2;rw[hgo];exact⟨⟨rfl,rfl⟩,YM hg fun g'' w'' hs' hr=>hk g'' w'' hs' (h1.trans hr)⟩
section
variable [Payload] {S:Ph} {Anch:Goroutine→World→Prop} {s bd:Nat} {own:List Nat} {rest:List (List Value)} {pend d:Nat}
theorem Qb8 (hP:S.P=Tryz.prog)(hty:S.ty=Tryz.link.tWg){c:Frame}{cs:List Frame}{k:Nat}{w:World}(hl:WgLive S.ty S.Wg w)
 (hA:∀w',RK S own w w'→Goes S.P true (RK S own) DC0 (Yw S Anch s bd own rest 1 0) k (G (c.finish (.tuple #[])) cs) w')
 (hB:∀w',RK S own w w'→Goes S.P true (RK S own) DC0 (Yw S Anch (s+1) bd own rest 1 0) k (G (c.finish (.tuple #[])) cs) w')(hW:S.Wg∉own):
 JN S Anch (s+5) bd own rest 0 0 (G (Frame.enter Tryz.prog Tryz.link.add #[.pointer (some ⟨S.Wg,0,none⟩),.int .i64 1] .normal) (c::cs)) w:=by
 have hadd:=Qb5 (P:=Tryz.prog) (L:=Tryz.link) (Wg:=S.Wg) Tryz.wgLib (c:=c) (cs:=cs) w (hty▸hl);rw[←hP,←hty]at hadd;rw[←hP]
 have hset:∀(w1:World) (v:Value) (st:Int),RK S own w w1→v=.int .u64 st→WgLive S.ty S.Wg w1→RK S own w (w1.setCell (stA S.Wg) v):=fun w1 v st h1 hv hl1=>by
  subst hv;refine⟨fun b h2 h3 h4=>?_,fun b hb=>?_,fun _=>?_,h1.oo⟩
  ·rw[Below.heap_setCell _ _ _ _ (show b≠(stA S.Wg).block from h3)];exact h1.low b h2 h3 h4
  ·rw[Below.heap_setCell _ _ _ _ (show b≠(stA S.Wg).block from fun e=>hW (by have e':b=S.Wg:=e;rw[←e'];exact hb))];exact h1.own b hb
  ·obtain⟨a,b,hw⟩:=hl1;exact⟨_,_,hw.setSt st⟩
 obtain⟨n,h⟩:=hadd;rw[show s+5=(s+4)+1 from rfl,Z3];refine⟨n+0,YM h fun g1 w1 hs1 hr1=>Goes.stop fun w2 hr2=>?_⟩;obtain⟨hrun,g2,hgo,n2,h2⟩:=hs1 w2 hr2.rl;refine⟨hrun,.inr (.inl ⟨.disable,g2,.inl rfl,hgo,?_⟩)⟩;rw[show s+4=(s+3)+1 from rfl,Z3];refine⟨n2+0,YM h2 fun g3 w3 hs3 hr3=>Goes.stop fun w4 hr4=>?_⟩;have hr04:RK S own w w4:=(hr1.trans hr2).trans (hr3.trans hr4);obtain⟨hrun3,hall⟩:=hs3 w4 hr4.rl;refine⟨hrun3,.inr (.inr (.inl ⟨rfl,fun v hv hwg=>?_⟩))⟩;obtain⟨g5,hgo5,hz,hnz⟩:=hall v hv hwg;refine⟨g5,hgo5,?_⟩;have hr05:=hset w4 (.int .u64 ((v+1:Nat)*KK)) _ hr04 rfl ⟨_,_,hwg⟩;rw[show s+3=(s+2)+1 from rfl,Z3];by_cases hv0:v=0
 ·obtain⟨n5,h5⟩:=hz hv0;refine⟨n5+0,YM h5 fun g6 w6 hs6 hr6=>Goes.stop fun w7 hr7=>?_⟩;obtain⟨hrun6,g8,hgo8,n8,h8⟩:=hs6 w7 hr7.rl;refine⟨hrun6,.inr (.inl ⟨_,g8,.inr (.inr rfl),hgo8,?_⟩)⟩;rw[show s+2=(s+1)+1 from rfl,Z3];refine⟨n8+0,YM h8 fun g9 w9 hs9 hr9=>Goes.stop fun w10 hr10=>?_⟩;obtain⟨hrun9,g11,hgo11,n11,h11⟩:=hs9 w10 hr10.rl;refine⟨hrun9,.inr (.inl ⟨_,g11,.inr (.inl rfl),hgo11,?_⟩)⟩;rw[Z3];refine⟨n11+k,YM h11 fun g12 w12 hs12 hr12=>?_⟩;obtain⟨rfl,_⟩:=hs12 w12 id;exact hA w12 (((hr05.trans (hr6.trans hr7)).trans (hr9.trans hr10)).trans hr12)
 ·obtain⟨n5,h5⟩:=hnz hv0;refine⟨n5+0,YM h5 fun g9 w9 hs9 hr9=>Goes.stop fun w10 hr10=>?_⟩;obtain⟨hrun9,g11,hgo11,n11,h11⟩:=hs9 w10 hr10.rl;refine⟨hrun9,.inr (.inl ⟨_,g11,.inr (.inl rfl),hgo11,?_⟩)⟩;rw[show s+2=(s+1)+1 from rfl,Z3];refine⟨n11+k,YM h11 fun g12 w12 hs12 hr12=>?_⟩;obtain⟨rfl,_⟩:=hs12 w12 id;exact hB w12 ((hr05.trans (hr9.trans hr10)).trans hr12)
end
end Co
end Go.Proofs.YtcpnkpogebjieaaGreat
