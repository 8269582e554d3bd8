/- What is due is what the specification tells; taken out and put behind, plain. No Go -/
import Derived.Test.YtcpnkpogebjieaaGreatG38Va
import Derived.Test.YtcpnkpogebjieaaGreatG39Ve
import Derived.Test.YtcpnkpogebjieaaGreatG26Yj
import Derived.Test.YtcpnkpogebjieaaGreatG27Ss4
import Derived.Test.YtcpnkpogebjieaaGreatG28Dd
open Go.Value renaming slice→Qhp
open Nat renaming le_refl→Qhq
open List renaming getElem?_toArray→Qhr,getElem?_cons_zero→Qhs,getElem?_cons_succ→Qht,length_cons→Qhu,length_append→Qhv,length_nil→Qhw,getElem?_eq_getElem→Qhx
set_option maxRecDepth 100000
set_option maxHeartbeats 2000000
namespace Go.Proofs.YtcpnkpogebjieaaGreat
namespace Co
def Ve (ws:List (Int×Int)):List Int→List (Int×Int)
 | []=>ws
 |z::zs=>(Ve ws zs).eraseIdx z.toNat
theorem Qc3 (ws pre:List (Int×Int)):QW ws pre=(pre.map fun x=>x.2).foldl (fun l z=>l.eraseIdx z.toNat) ws:=by
 unfold QW
 rw[List.foldl_map]
theorem QbT (zs:List Int):(bwd zs).map (fun x=>x.2)=zs.reverse:=by
 unfold bwd
 rw[List.map_reverse,List.map_map]
 congr 1
 exact List.zipIdx_map_fst 0 zs
theorem Qc2 (ws:List (Int×Int))(zs:List Int):QW ws (bwd zs)=Ve ws zs:=by
 rw[Qc3,QbT]
 induction zs with
 |nil=>rfl
 |cons z zs ih=>
  rw[List.reverse_cons,List.foldl_append,ih]
  rfl
variable (R wh:List Int)
theorem P8 (ws:List (Int×Int)):∀(l pre:List (Int×Int)),ws=pre++l→(Zb R wh pre.length l).map (fun z=>ws.getD z.toNat (0,0))=l.filter (ZO R wh)
 | [],_,_=>rfl
 |x::l,pre,e=>by
  have ih:=P8 ws l (pre++ [x]) (by rw[e];simp)
  simp only[Qhv,Qhu,Qhw]at ih
  unfold Zb
  rw[List.filter_cons]
  cases hx:ZO R wh x with
  |false=>simpa using ih
  |true=>
   simp only[if_true,List.map_cons]
   rw[show(pre.length+(0+1))=pre.length+1 by omega]at ih
   rw[ih]
   congr 1
   rw[e]
   simp[List.getD]
theorem Oa:∀(l pre:List (Int×Int)),Ve (pre++l) (Zb R wh pre.length l)=pre++l.filter fun x=>!ZO R wh x
 | [],pre=>rfl
 |x::l,pre=>by
  have ih:=Oa l (pre++ [x])
  simp only[Qhv,Qhu,Qhw]at ih
  rw[show(pre.length+(0+1))=pre.length+1 by omega]at ih
  have e:pre++x::l=(pre++ [x])++l:=by simp
  unfold Zb
  rw[List.filter_cons]
  cases hx:ZO R wh x with
  |false=>
   rw[e]
   simp only[Bool.false_eq_true,if_false,Bool.not_false,if_true]
   rw[ih]
   simp
  |true=>
   rw[e]
   simp only[if_true,Bool.not_true,Bool.false_eq_true,if_false,Ve]
   rw[ih,Int.toNat_natCast,List.eraseIdx_append_of_lt_length (by simp),List.eraseIdx_append_of_length_le (Qhq _)]
   simp
theorem P7:∀(l:List (Int×Int)) (k j:Nat) (hj:j<(Zb R wh k l).length),(k:Int)≤(Zb R wh k l)[j]∧(Zb R wh k l)[j].toNat+((Zb R wh k l).length-(j+1))<k+l.length
 | [],k,j,hj=>by simp[Zb]at hj
 |x::l,k,j,hj=>by
  have ih:=P7 l (k+1)
  have hle:=Vf R wh l (k+1)
  cases hx:ZO R wh x with
  |false=>
   have e:Zb R wh k (x::l)=Zb R wh (k+1) l:=by simp[Zb,hx]
   simp only[e]at hj⊢
   have:=ih j hj
   simp only[Qhu]
   omega
  |true=>
   have e:Zb R wh k (x::l)=(k:Int)::Zb R wh (k+1) l:=by simp[Zb,hx]
   simp only[e]at hj⊢
   simp only[Qhu]at hj⊢
   cases j with
   |zero=>
    simp only[List.getElem_cons_zero]
    omega
   |succ j=>
    have:=ih j (by omega)
    simp only[List.getElem_cons_succ]
    omega
theorem Od {h:Hp}(c:OkC h):∀p∈h.ws,ZO ((reachP h.p).filter fun q=>decide ((h.os.map (·.k)).getD q.toNat 0=4)) (whs (reachP h.p) h.os.length) p=(decide (0≤pos (reachP h.p) p.1)&&decide (pos (reachP h.p) p.2<0)):=fun p hp=>by
 have hw:=c.wo p hp
 simp only[Qp,inB,Bool.and_eq_true,decide_eq_true_eq,List.length_map]at hw
 obtain⟨⟨h1,h2⟩,h3⟩:=hw
 have l1:p.1.toNat<h.os.length:=by omega
 have l2:p.2.toNat<(whs (reachP h.p) h.os.length).length:=by rw[JM];omega
 have e2:(whs (reachP h.p) h.os.length).getD p.2.toNat 0=pos (reachP h.p) p.2:=by
  rw[List.getD_eq_getElem?_getD,Qhx l2,Option.getD_some,UW _ _ _ (by omega)]
 unfold ZO
 rw[e2]
 congr 1
 rw[Bool.eq_iff_iff]
 simp only[decide_eq_true_eq,List.mem_filter,JI]
 refine⟨fun q=>q.1,fun q=>⟨q,?_⟩⟩
 rw[List.getElem?_map,Qhx l1]at h3
 simp only[Option.map_some,Option.some.injEq,Ob.p]at h3
 simp[List.getD,Qhx l1,h3]
theorem P4 {h:Hp}(c:OkC h):Q6 h.ws (QA h)=Qj h.ws (reachP h.p):=by
 refine(P8 ((reachP h.p).filter fun q=>decide ((h.os.map (·.k)).getD q.toNat 0=4)) (whs (reachP h.p) h.os.length) h.ws h.ws [] rfl).trans ?_
 unfold Qj
 exact List.filter_congr fun p hp=>Od c p hp
theorem P5 {h:Hp}(c:OkC h):QW h.ws (bwd (QA h))=QP h.ws (Qj h.ws (reachP h.p)):=by
 rw[Qc2]
 have:=Oa ((reachP h.p).filter fun q=>decide ((h.os.map (·.k)).getD q.toNat 0=4)) (whs (reachP h.p) h.os.length) h.ws []
 simp only[List.nil_append,Qhw]at this
 unfold QA
 rw[this]
 unfold QP
 refine List.filter_congr fun p hp=>?_
 rw[Od c p hp]
 congr 1
 rw[Bool.eq_iff_iff,decide_eq_true_eq,UU]
 exact⟨fun q=>⟨hp,q⟩,fun q=>q.2⟩
theorem Qda (h:Hp):∀j (hj:j<(QA h).length),0≤(QA h)[j]∧(QA h)[j].toNat+((QA h).length-(j+1))<h.ws.length:=fun j hj=>by
 have:=P7 ((reachP h.p).filter fun q=>decide ((h.os.map (·.k)).getD q.toNat 0=4)) (whs (reachP h.p) h.os.length) h.ws 0 j hj
 simp only[Nat.zero_add]at this
 exact this
theorem Qdb (h:Hp):(QA h).length≤h.ws.length:=Vf _ _ _ _
theorem P6 {h:Hp}(c:OkC h):QA h=[]↔Qj h.ws (reachP h.p)=[]:=by
 rw[←P4 c]
 unfold Q6
 exact List.map_eq_nil_iff.symm
end Co
namespace Co
open Go.Conc Go.ConcN Go.RowKit Go.Conc.Lib Go.ConcR.Gen
open Go.ConcR (DC0)
set_option linter.unusedSimpArgs false
theorem Y3 (T:Array Value)(h:T.size=13):∃v0 v1 v2 v3 v4 v5 v6 v7 v8 v9 v10 v11 v12,T=#[v0,v1,v2,v3,v4,v5,v6,v7,v8,v9,v10,v11,v12]:=by
 obtain⟨l⟩:=T
 simp only[List.size_toArray]at h
 rcases l with _|⟨v0,l⟩
 ·simp at h
 rcases l with _|⟨v1,l⟩
 ·simp at h
 rcases l with _|⟨v2,l⟩
 ·simp at h
 rcases l with _|⟨v3,l⟩
 ·simp at h
 rcases l with _|⟨v4,l⟩
 ·simp at h
 rcases l with _|⟨v5,l⟩
 ·simp at h
 rcases l with _|⟨v6,l⟩
 ·simp at h
 rcases l with _|⟨v7,l⟩
 ·simp at h
 rcases l with _|⟨v8,l⟩
 ·simp at h
 rcases l with _|⟨v9,l⟩
 ·simp at h
 rcases l with _|⟨v10,l⟩
 ·simp at h
 rcases l with _|⟨v11,l⟩
 ·simp at h
 rcases l with _|⟨v12,l⟩
 ·simp at h
 obtain rfl:l=[]:=by
  cases l with
  |nil=>rfl
  |cons=>simp at h
 exact⟨v0,v1,v2,v3,v4,v5,v6,v7,v8,v9,v10,v11,v12,rfl⟩
noncomputable def btB:Code:=match Tryz.f33.body with
 |some (.seq _ (.block _ (.loop b)))=>b
 |_=>.skip
noncomputable def Y6:Array Oper:=match btB with
 | .block _ (.seq (.region _ ops _) _)=>ops
 |_=>#[]
noncomputable def btR:Code:=match btB with
 | .block _ (.seq _ r)=>r
 |_=>.skip
noncomputable def btC (T:Array Value):Frame:=(base 33).at ⟨T,[]⟩ [.inRegion Y6 [1,2],.code btR,.inBlock 1,.inLoop btB,.inBlock 0]
structure BI (h:Hp) (X0:Nat→Bool) (N:Nat) (w0:World) (bx br n:Nat) (X:Nat→Bool) (y:Hp) (w:World):Prop where
 old:∀b,b<N→w.heap[b]? =w0.heap[b]? ∧X b=X0 b
 big:N≤w.heap.size
 b1:Blk w bx (Hp.cells y) 27
 b2:Blk w br [.slice none 0 0,.slice none 0 0,.slice none 0 0,.slice none 0 0] 27
 n1:N≤bx
 n2:N≤br
 ne:bx≠br
 x1:X bx=false
 x2:X br=false
 sn:Sn X w
 hin:Qg (emW X w) y
 a1:Zg y (some bx)
 a2:Zg y (some br)
 eo:y.os=h.os∧y.rs=h.rs∧y.ws=(spS h n).1∧y.ds=(spS h n).2.1
 oo:OO w w0
theorem BI.rely {h:Hp}{X0:Nat→Bool}{N:Nat}{w0:World}{bx br n:Nat}{X:Nat→Bool}{y:Hp}{w w1:World}(I:BI h X0 N w0 bx br n X y w)(r:AtRel w w1):BI h X0 N w0 bx br n X y w1:=by
 obtain⟨d,rfl⟩:=r
 exact⟨I.old,I.big,I.b1,I.b2,I.n1,I.n2,I.ne,I.x1,I.x2,I.sn.at d,Qg.heap I.hin (by rw[QD,QD];exact Qhq _) (fun b _=>by rw[Q7,Q7];rfl),I.a1,I.a2,I.eo,I.oo⟩
theorem BI.due {h:Hp}{X0:Nat→Bool}{N:Nat}{w0:World}{bx br n:Nat}{X X':Nat→Bool}{y:Hp}{w w':World}(I:BI h X0 N w0 bx br n X y w)(hs:Sn X' w')(ho:∀b,b<w.heap.size→w'.heap[b]? =w.heap[b]? ∧X' b=X b)(hz:w.heap.size≤w'.heap.size)(hoo:OO w' w):BI h X0 N w0 bx br n X' y w':=by
 have big:=I.big
 have l1:=I.b1.lt
 have l2:=I.b2.lt
 refine⟨fun b hb=>⟨((ho b (by omega)).1).trans (I.old b hb).1,((ho b (by omega)).2).trans (I.old b hb).2⟩,Nat.le_trans big hz,I.b1.same (ho _ l1).1,I.b2.same (ho _ l2).1,I.n1,I.n2,I.ne,((ho _ l1).2).trans I.x1,((ho _ l2).2).trans I.x2,hs,?_,I.a1,I.a2,I.eo,hoo.trans I.oo⟩
 refine Qg.heap I.hin (by rw[QD,QD];exact hz) fun b hb=>?_
 rw[QD]at hb
 rw[Q7,Q7,(ho b hb).1]
 have:emO X' b=emO X b:=by
  funext o
  unfold emO
  rw[(ho b hb).2]
 rw[this]
section
variable {h:Hp} {X0:Nat→Bool} {N:Nat} {w0:World} {bx br n:Nat} {X:Nat→Bool} {y:Hp} {Ch:Nat} {cs:List Frame}
def Qbo (h:Hp)(X0:Nat→Bool)(N:Nat)(w0:World)(bx br n:Nat)(X:Nat→Bool)(y:Hp)(cs:List Frame)(g:Goroutine)(w:World):Prop:=
 ∃T:Array Value,T.size=13∧T[1]? =some (.pointer (some ⟨bx,0,none⟩))∧T[2]? =some (.pointer (some ⟨br,0,none⟩))∧g=G (Frame.enter Tryz.prog 81 #[y.v] .normal) (btC T::cs)∧BI h X0 N w0 bx br n X y w
theorem QbS {T:Array Value}(hT:T.size=13)(t1:T[1]? =some (.pointer (some ⟨bx,0,none⟩)))(t2:T[2]? =some (.pointer (some ⟨br,0,none⟩))){w:World}(hF:BI h X0 N w0 bx br n X y w):
 Qt Tryz.prog X Ch (Qbo h X0 N w0 bx br n X y cs) (G ((base 33).at ⟨T,[]⟩ [.code btB,.inLoop btB,.inBlock 0]) cs) w:=by
 obtain⟨v0,v1,v2,v3,v4,v5,v6,v7,v8,v9,v10,v11,v12,rfl⟩:=Y3 T hT
 simp only[Qhr,Qhs,Qht,Option.some.injEq]at t1 t2
 subst t1 t2
 obtain⟨B0,hB0⟩:∃B0,B0=btB:=⟨_,rfl⟩
 rw[←hB0]
 rw[show B0=_ from hB0]
 refine QI (n:=30) ?_
 have e1:btB=.block 1 (.seq (.region 1 Y6 false) btR):=rfl
 rw[e1]
 u_c stepG_block BI.rely hF
 u_c stepG_seq BI.rely hF
 simp only[Y6,btB,Tryz.f33]
 u_reg BI.rely hF
 refine Goes.stop (fun w1 h1=>?_)
 replace hF:=BI.rely hF h1
 clear h1
 refine ZL rfl (fun w2 h2=>?_)
 have hz:=ZR h2
 replace hF:=BI.rely hF h2
 clear h2
 have hl:=hF.b1.lt
 refine goes_oper_k rfl rfl (by decide) (fun K hK=>?_)
 obtain⟨c0,c1,c2,c3⟩:=Qc (show Blk w2 bx [Qhp y.oa y.os.length y.ocap,Qhp y.ra y.rs.length y.rcap,Qhp y.wa y.ws.length y.wcap,Qhp y.da y.ds.length y.dcap] _ from hF.b1)
 go_simp
 refine hK _ _ ⟨⟨hz,fun B hB e he=>?_⟩,?_⟩
 ·have hm:=mem_listed he
  simp[go_sem,c0,c1,c2,c3]at hm
  rcases hm with rfl|rfl|rfl|rfl<;>exact⟨hF.x1,by show bx<B;omega⟩
 clear hK K hz c0 c1 c2 c3 hl
 refine QI (n:=5) ?_
 u_in BI.rely hF
 refine goes_call rfl rfl (by decide) rfl Tryz.func81 rfl rfl ⟨by u_nil,?_⟩
 rw[←enter_at _ Tryz.func81 rfl]
 simp only[List.map_toArray,List.map_cons,List.map_nil,Act.eval,Array.getD_eq_getD_getElem?,Qhr,Qht,Qhs,Option.getD_some]
 refine Goes.stop (fun w6 h6=>.stop ?_)
 replace hF:=BI.rely hF h6
 exact⟨_,rfl,rfl,rfl,rfl,hF⟩
end
structure HF (h:Hp):Prop where
 ok:OkC h
 txt:∀i (hi:i<h.os.length),h.os[i].t.size≤maxLen
 cap:∀(i:Nat) (hi:i<h.os.length),h.os[i].r.length≤h.os[i].rcap
section
variable {h:Hp} {X0:Nat→Bool} {N:Nat} {w0:World} {bx br n:Nat} {X:Nat→Bool} {y:Hp} {Ch:Nat} {c:Frame} {cs:List Frame}
theorem BI.okC {w:World}(I:BI h X0 N w0 bx br n X y w)(hf:HF h):OkC y:=by
 refine OkC.of_p ?_ (spI hf.ok n).ok
 obtain⟨e1,e2,e3,e4⟩:=I.eo
 show(_,_,_,_)=(_,_,_,_)
 rw[e1,e2,e3,e4]
 rfl
theorem BI.dueOk {w:World}(I:BI h X0 N w0 bx br n X y w)(hf:HF h):Pl y:=by
 have c:=I.okC hf
 have hw:=c.w20
 obtain⟨e1,_⟩:=I.eo
 refine⟨c.small,?_,?_,c.n60,c.comes.pl,by omega,fun k hk=>(Uk (h:=y) c.wo _ (List.getElem_mem hk)).2⟩
 ·rw[e1];exact hf.txt
 ·rw[e1];exact hf.cap
theorem BI.told {w:World}(I:BI h X0 N w0 bx br n X y w)(hf:HF h):Qj y.ws (reachP y.p)=Qj (spS h n).1 (spS h n).2.2:=by
 obtain⟨e1,e2,e3,e4⟩:=I.eo
 have e:y.p=(h.tells (spS h n).1 (spS h n).2.1).p:=by
  show(_,_,_,_)=(_,_,_,_)
  rw[e1,e2,e3,e4]
  rfl
 rw[e,e3]
 exact(UT _ (spI hf.ok n).eq).symm
structure JO (h:Hp) (X0:Nat→Bool) (N:Nat) (w0:World) (n:Nat) (X:Nat→Bool) (y:Hp) (w:World):Prop where
 old:∀b,b<N→w.heap[b]? =w0.heap[b]? ∧X b=X0 b
 big:N≤w.heap.size
 sn:Sn X w
 hin:Qg (emW X w) y
 eo:y.os=h.os∧y.rs=h.rs∧y.ws=(spS h n).1∧y.ds=(spS h n).2.1
 nil:QA y=[]
 oo:OO w w0
def Qbp (h:Hp)(X0:Nat→Bool)(N:Nat)(w0:World)(bx br n:Nat)(X:Nat→Bool)(y:Hp)(c:Frame)(cs:List Frame)(g:Goroutine)(w:World):Prop:=
 (g=G (c.finish y.v) cs∧JO h X0 N w0 n X y w)∨
 ∃(T:Array Value) (y':Hp),T.size=13∧T[1]? =some (.pointer (some ⟨bx,0,none⟩))∧T[2]? =some (.pointer (some ⟨br,0,none⟩))∧g=G ((base 33).at ⟨T,[]⟩ [.code btB,.inLoop btB,.inBlock 0]) (c::cs)∧BI h X0 N w0 bx br (n+1) X y' w∧y'.ws.length<y.ws.length
theorem Kh {w:World}{b t:Nat}{cs:List Value}(hb:Blk w b cs t)(hx:X b=false)(tp:Tape)(d:Nat):Blk {emW X w with tape:=tp,drawn:=d} b cs t:=by
 show(emW X w).heap[b]? =_
 rw[Z7 hx]
 exact hb
theorem Qdl {w:World}{base e size n:Nat}{v:Value}{xs:List Value}(ho:w.ownsRow base e size v n xs)(hx:∀b,v.ownBlock=some b→X b=false)(tp:Tape)(d:Nat):({emW X w with tape:=tp,drawn:=d}:World).ownsRow base e size v n xs:=
 ZP ho fun b hb=>Z7 (hx b hb)
theorem Vj {w:World}(hh:Qg (emW X w) y)(tp:Tape)(d:Nat):Qg {emW X w with tape:=tp,drawn:=d} y:=Qg.heap hh (Qhq _) fun _ _=>rfl
def BtR (y:Hp)(bx br:Nat)(zs:List Int)(u:World)(a:Act)(w1:World):Prop:=
 a.defers=[]∧a.tmps.size=13∧a.tmps[1]? =some (.pointer (some ⟨bx,0,none⟩))∧a.tmps[2]? =some (.pointer (some ⟨br,0,none⟩))∧zs≠[]∧
 (∃(wa:Option Addr) (wcap:Nat) (ea:Option Addr) (ecap:Nat),Blk w1 bx [Qhp y.oa y.os.length y.ocap,Qhp y.ra y.rs.length y.rcap,Qhp wa (QW y.ws (bwd zs)).length wcap,Qhp ea (y.ds++Q6 y.ws zs).length ecap] 27∧
   Qe w1 u.heap.size (.slice wa (QW y.ws (bwd zs)).length wcap) (QW y.ws (bwd zs))∧Qe w1 u.heap.size (.slice ea (y.ds++Q6 y.ws zs).length ecap) (y.ds++Q6 y.ws zs))∧
 (∀b,b<u.heap.size→b≠bx→w1.heap[b]? =u.heap[b]?)∧u.heap.size≤w1.heap.size∧OO w1 u
def Pi (y:Hp)(br:Nat)(zs:List Int)(u:World)(a:Act)(w1:World):Prop:=
 a.defers=[]∧a.tmps.size=13∧a.tmps[2]? =some (.pointer (some ⟨br,0,none⟩))∧zs=[]∧Blk w1 br (Hp.cells y) 27∧(∀b,b<u.heap.size→b≠br→w1.heap[b]? =u.heap[b]?)∧u.heap.size≤w1.heap.size∧OO w1 u
theorem QbM (v0 v4 v5 v6 v7 v8 v9 v10 v11 v12:Value){u:World}(hn:bx≠br)(h1:Blk u bx (Hp.cells y) 27)(h2:Blk u br [.slice none 0 0,.slice none 0 0,.slice none 0 0,.slice none 0 0] 27)(hh:Qg u y)(hok:OkC y)(za:Option Addr)(zcap:Nat)(hz:Qk u za (QA y)):
 btR.wp Cut.prog (Z9 (BtR y bx br (QA y) u) (Pi y br (QA y) u)) ⟨#[v0,.pointer (some ⟨bx,0,none⟩),.pointer (some ⟨br,0,none⟩),.slice za (QA y).length zcap,v4,v5,v6,v7,v8,v9,v10,v11,v12],[]⟩ u:=by
 have hw:=hok.w20
 have hlen:=Qdb y
 have c1:=QgR y u hh (by omega) (by omega) za zcap (QA y) hz (by omega) (Qda y)
 simp only[Hp.v]at c1
 obtain⟨x0,x1,x2,x3⟩:=Qc (show Blk u bx [Qhp y.oa y.os.length y.ocap,Qhp y.ra y.rs.length y.rcap,Qhp y.wa y.ws.length y.wcap,Qhp y.da y.ds.length y.dcap] _ from h1)
 obtain⟨r0,r1,r2,r3⟩:=Qc h2
 obtain⟨f0,f1,f2,f3⟩:=QH h2
 obtain⟨g0,g1,g2,g3⟩:=QH h1
 have hnb:¬bx=br:=hn
 have hnb':¬br=bx:=fun e=>hn e.symm
 simp only[btR,btB,Tryz.f33]
 by_cases h0:(QA y).length=0
 ·have hb0:(((QA y).length:Int)==0)=true:=by rw[h0];rfl
  obtain⟨kq,bq⟩:=Q8 h2 (.slice y.oa y.os.length y.ocap) (.slice y.ra y.rs.length y.rcap) (.slice y.wa y.ws.length y.wcap) (.slice y.da y.ds.length y.dcap)
  have hq:∀b,b≠br→((((u.setCell ⟨br,0,none⟩ (.slice y.oa y.os.length y.ocap)).setCell ⟨br,1,none⟩ (.slice y.ra y.rs.length y.rcap)).setCell ⟨br,2,none⟩ (.slice y.wa y.ws.length y.wcap)).setCell ⟨br,3,none⟩ (.slice y.da y.ds.length y.dcap)).heap[b]? =u.heap[b]? :=fun b hb=>by
   rw[Below.heap_setCell _ _ _ _ hb,Below.heap_setCell _ _ _ _ hb,Below.heap_setCell _ _ _ _ hb,Below.heap_setCell _ _ _ _ hb]
  clear kq
  go_wp2
  exact⟨rfl,rfl,rfl,List.eq_nil_of_length_eq_zero h0,bq,fun b _ hb=>hq b hb,by simp[World.setCell],⟨rfl,rfl⟩⟩
 ·have hb0:(((QA y).length:Int)==0)=false:=by rw[Yr];exact decide_eq_false h0
  go_wp2_with fail
  refine c1.mono ?_
  rintro e w1 ⟨wa,wcap,ea,ecap,rfl,o1,o2,hb⟩
  have b1:Blk w1 bx [Qhp y.oa y.os.length y.ocap,Qhp y.ra y.rs.length y.rcap,Qhp y.wa y.ws.length y.wcap,Qhp y.da y.ds.length y.dcap] 27:=h1.step hb
  obtain⟨kq,bq⟩:=Q8 b1 (.slice y.oa y.os.length y.ocap) (.slice y.ra y.rs.length y.rcap) (.slice wa (QW y.ws (bwd (QA y))).length wcap) (.slice ea (y.ds++Q6 y.ws (QA y)).length ecap)
  have hq:∀b,b≠bx→((((w1.setCell ⟨bx,0,none⟩ (.slice y.oa y.os.length y.ocap)).setCell ⟨bx,1,none⟩ (.slice y.ra y.rs.length y.rcap)).setCell ⟨bx,2,none⟩ (.slice wa (QW y.ws (bwd (QA y))).length wcap)).setCell ⟨bx,3,none⟩ (.slice ea (y.ds++Q6 y.ws (QA y)).length ecap)).heap[b]? =w1.heap[b]? :=fun b hb=>by
   rw[Below.heap_setCell _ _ _ _ hb,Below.heap_setCell _ _ _ _ hb,Below.heap_setCell _ _ _ _ hb,Below.heap_setCell _ _ _ _ hb]
  have q1:=Qm o1 kq (by decide)
  have q2:=Qm o2 kq (by decide)
  have hne:QA y≠[]:=fun e=>h0 (by rw[e];rfl)
  have hsz:=hb.size
  have hbk:=hb.block
  have hoo:OO w1 u:=⟨hb.os,hb.output⟩
  have HLA:Hid ((y.ds++Q6 y.ws (QA y)).length=y.ds.length+(Q6 y.ws (QA y)).length):=Qhv
  generalize hRS:y.ds++Q6 y.ws (QA y)=rs at *
  have HRS:Hid (y.ds++Q6 y.ws (QA y)=rs):=hRS
  clear hRS
  obtain⟨x0',x1',x2',x3'⟩:=Qc b1
  obtain⟨g0',g1',g2',g3'⟩:=QH b1
  clear kq b1 c1 o1 o2 hb x0 x1 x2 x3 g0 g1 g2 g3 h1 h2 r0 r1 r2 r3 f0 f1 f2 f3
  go_wp2
  refine⟨rfl,rfl,rfl,rfl,hne,⟨wa,wcap,ea,ecap,?_,q1,?_⟩,fun b hb hn=>(hq b hn).trans (hbk b hb),by simp[World.setCell];exact hsz,hoo⟩
  ·rw[HRS.out];exact bq
  ·rw[HRS.out];exact q2
theorem Y5 {w1 w2 w2' u:World}(hu:u.heap=(emW X w1).heap)(hE:Em X w2 w2')(hK:Qy X w1 w2){b:Nat}(hb:w2'.heap[b]? =u.heap[b]?):w2.heap[b]? =w1.heap[b]? :=by
 cases hx:X b with
 |true=>exact hK.ob b hx
 |false=>rw[JH hE hx,hb,hu,Z7 hx]
theorem Qg.but {w w':World}{h:Hp}{q:Nat}(hh:Qg w h)(hs:w.heap.size≤w'.heap.size)(ho:∀b,b<w.heap.size→b≠q→w'.heap[b]? =w.heap[b]?)(hav:Zg h (some q)):Qg w' h:=by
 have h1:=Qg.grown hh (w':={w with heap:=w'.heap}) ⟨rfl,rfl,rfl,hs,fun k hk hne=>ho k hk fun e=>hne (by rw[e])⟩ hav
 exact⟨h1.so,h1.sr,h1.sw,h1.sd⟩
theorem Vh {w2 w2':World}{y:Hp}(hE:Em X w2 w2')(hh:Qg w2' y):Qg (emW X w2) y:=
 Qg.heap hh (by rw[QD,hE.size];exact Qhq _) fun b _=>by rw[Q7,hE.heap b]
theorem Oo {a:Act}{k:List Item}(hd:a.defers=[])(hk:∀i∈k,ZY Tryz.progTables X i):FOk Tryz.progTables Cut.keep X ((base 33).at a k):=
 ⟨by kernel_rfl,hk,(fun d hq=>by
   have:d∈a.defers:=hq
   rw[hd]at this
   simp at this),rfl,fun l hl=>by cases hl⟩
theorem QbO:∀i∈[Item.code btR,.inBlock 1,.inLoop btB,.inBlock 0],ZY Tryz.progTables X i:=by
 intro i hi
 simp only[List.mem_cons,List.not_mem_nil,or_false]at hi
 rcases hi with rfl|rfl|rfl|rfl
 ·exact(show QO Tryz.progTables btR=true by kernel_rfl)
 ·trivial
 ·exact(show QO Tryz.progTables btB=true by kernel_rfl)
 ·trivial
theorem QbP (hf:HF h){T:Array Value}(hT:T.size=13)(t1:T[1]? =some (.pointer (some ⟨bx,0,none⟩)))(t2:T[2]? =some (.pointer (some ⟨br,0,none⟩))){w:World}{M:Nat}{v:Value}(hF:BI h X0 N w0 bx br n X y w)(hv:Qa w M v (QA y))(hx:∀b,v.ownBlock=some b→X b=false):
 Qt Tryz.prog X Ch (Qbp h X0 N w0 bx br n X y c cs) (G ((btC T).finish v) (c::cs)) w:=by
 obtain⟨v0,v1,v2,v3,v4,v5,v6,v7,v8,v9,v10,v11,v12,rfl⟩:=Y3 T hT
 simp only[Qhr,Qhs,Qht,Option.some.injEq]at t1 t2
 subst t1 t2
 obtain⟨za,zcap,rfl,-⟩:=hv.form
 rw[btC,Frame.finish_at]
 have e0:Y6[1]? =some Y6[1]! :=rfl
 have hFv:BI h X0 N w0 bx br n X y w∧Qa w M (.slice za (QA y).length zcap) (QA y):=⟨hF,hv⟩
 have rel:∀ {w w1:World},(BI h X0 N w0 bx br n X y w∧Qa w M (.slice za (QA y).length zcap) (QA y))→AtRel w w1→(BI h X0 N w0 bx br n X y w1∧Qa w1 M (.slice za (QA y).length zcap) (QA y)):=fun h r=>⟨BI.rely h.1 r,ZP h.2 fun b _=>by obtain⟨d,rfl⟩:=r;rfl⟩
 clear hF hv
 refine QI (n:=30) ?_
 obtain⟨R0,hR0⟩:∃R0,R0=btR:=⟨_,rfl⟩
 obtain⟨B0,hB0⟩:∃B0,B0=btB:=⟨_,rfl⟩
 rw[←hR0,←hB0]
 simp only[Y6,btB,Tryz.f33,Qhr,Qht,Qhs,Option.bind_some]
 walk_nrm
 u_op rel hFv
 u_c stepG_region_end rel hFv
 refine Goes.stop (fun w1 h1=>?_)
 replace hFv:=rel hFv h1
 clear h1 e0 rel
 obtain⟨hF,hv⟩:=hFv
 rw[hR0,hB0]
 clear hR0 hB0 R0 B0
 have hok:=hF.okC hf
 have hseg:∀t d,Qk {emW X w1 with tape:=t,drawn:=d} za (QA y):=fun t d=>by
  obtain⟨a,cp,e,h2,_⟩:=Qa.form (Qdl hv hx t d)
  cases e
  exact h2
 refine V5 hF.sn (Oo rfl QbO) (R:=fun a w2=>∃u:World,(u.heap=(emW X w1).heap∧OO u w1)∧BtR y bx br (QA y) u a w2) (Rr:=fun a w2=>∃u:World,(u.heap=(emW X w1).heap∧OO u w1)∧Pi y br (QA y) u a w2) (fun t d=>?_) (fun a w2 w2' hE hS hK hFO hR=>?_) (fun a todo w2 w2' hE hS hK hFO hR=>?_)
 ·refine wp_mono (QbM _ _ _ _ _ _ _ _ _ _ hF.ne (Kh hF.b1 hF.x1 t d) (Kh hF.b2 hF.x2 t d) (Vj hF.hin t d) hok za zcap (hseg t d)) fun e a w hq=>?_
  cases e with
  |normal=>exact⟨{emW X w1 with tape:=t,drawn:=d},⟨rfl,rfl,rfl⟩,hq⟩
  |ret=>exact⟨{emW X w1 with tape:=t,drawn:=d},⟨rfl,rfl,rfl⟩,hq⟩
  |_=>exact hq
 ·obtain⟨u,⟨hu,huo⟩,r1,r2,r3,r4,r5,⟨wa,wcap,ea,ecap,r6,r7,r8⟩,r9,r10,r11⟩:=hR
  have hoo:OO w2 w1:=OO.trans (OO.trans ⟨hE.os.symm,hE.out.symm⟩ r11) huo
  obtain⟨T,D⟩:=a
  simp only at r1 r2 r3 r4
  subst r1
  have us:u.heap.size=w1.heap.size:=by rw[hu];exact QD X w1
  have hbk:∀b,b<w1.heap.size→b≠bx→w2.heap[b]? =w1.heap[b]? :=fun b h1 h2=>Y5 hu hE hK (r9 b (by omega) h2)
  have big:=hF.big
  have l1:=hF.b1.lt
  have l2:=hF.b2.lt
  have hsz:=hK.size
  have nb:=hF.n1
  have hu0:Qg u y:=Qg.heap hF.hin (by rw[us,QD];exact Qhq _) fun b _=>by rw[hu]
  have hy2:Qg w2' y:=Qg.but hu0 r10 (fun b h1 h2=>r9 b h1 h2) hF.a1
  obtain⟨qa,qc,q1,q2,-⟩:=Qe.form r7
  simp only[Value.slice.injEq]at q1
  obtain⟨rfl,-⟩:=q1
  obtain⟨qa',qc',q3,q4,-⟩:=Qe.form r8
  simp only[Value.slice.injEq]at q3
  obtain⟨rfl,-⟩:=q3
  have hI:BI h X0 N w0 bx br (n+1) X {y with wa:=wa,wcap:=wcap,ws:=QW y.ws (bwd (QA y)),da:=ea,dcap:=ecap,ds:=y.ds++Q6 y.ws (QA y)} w2:=by
   refine⟨fun b hb=>⟨(hbk b (by omega) (by omega)).trans (hF.old b hb).1,(hF.old b hb).2⟩,by omega,?_,hF.b2.same (hbk br l2 (fun e=>hF.ne e.symm)),hF.n1,hF.n2,hF.ne,hF.x1,hF.x2,hS,Vh hE ⟨hy2.so,hy2.sr,q2,q4⟩,⟨hF.a1.ao,hF.a1.aoo,hF.a1.ar,?_,?_⟩,⟨hF.a2.ao,hF.a2.aoo,hF.a2.ar,?_,?_⟩,⟨hF.eo.1,hF.eo.2.1,?_,?_⟩,hoo.trans hF.oo⟩
   ·exact Blk.same r6 (JH hE hF.x1)
   ·exact Y4 (fun k e=>(Qe.lt r7 k e).1) (fun k e=>by cases e;omega)
   ·exact Y4 (fun k e=>(Qe.lt r8 k e).1) (fun k e=>by cases e;omega)
   ·exact Y4 (fun k e=>(Qe.lt r7 k e).1) (fun k e=>by cases e;omega)
   ·exact Y4 (fun k e=>(Qe.lt r8 k e).1) (fun k e=>by cases e;omega)
   ·show QW y.ws (bwd (QA y))=_
    rw[P5 hok,JK,hF.told hf]
    unfold Jj
    rw[hF.eo.2.2.1]
   ·show y.ds++Q6 y.ws (QA y)=_
    rw[P4 hok,JK,hF.told hf]
    unfold Jj
    rw[hF.eo.2.2.2]
  have hlt:(QW y.ws (bwd (QA y))).length<y.ws.length:=by
   rw[P5 hok]
   have h1:=UX y.ws (reachP y.p)
   have h2:Qj y.ws (reachP y.p)≠[]:=fun e=>r5 ((P6 hok).2 e)
   have h3:=List.length_pos_iff.2 h2
   omega
  clear hF hv hok hseg hE hS hK hFO r6 r7 r8 r9 hbk hu0 hy2 q2 q4
  refine QI (n:=5) ?_
  u_c stepG_inBlock BI.rely hI
  u_c stepG_inLoop BI.rely hI
  refine Goes.stop (fun w3 h3=>.stop (.inr ?_))
  exact⟨T,_,r2,r3,r4,rfl,BI.rely hI h3,hlt⟩
 ·obtain⟨u,⟨hu,huo⟩,r1,r2,r3,r4,r5,r6,r7,r8⟩:=hR
  have hoo:OO w2 w1:=OO.trans (OO.trans ⟨hE.os.symm,hE.out.symm⟩ r8) huo
  obtain⟨T,D⟩:=a
  simp only at r1 r2 r3
  subst r1
  obtain⟨p0,p1,p2,p3,p4,p5,p6,p7,p8,p9,p10,p11,p12,rfl⟩:=Y3 T r2
  simp only[Qhr,Qhs,Qht,Option.some.injEq]at r3
  subst r3
  have us:u.heap.size=w1.heap.size:=by rw[hu];exact QD X w1
  have hbk:∀b,b<w1.heap.size→b≠br→w2.heap[b]? =w1.heap[b]? :=fun b h1 h2=>Y5 hu hE hK (r6 b (by omega) h2)
  have big:=hF.big
  have nb:=hF.n2
  have hsz:=hK.size
  have hu0:Qg u y:=Qg.heap hF.hin (by rw[us,QD];exact Qhq _) fun b _=>by rw[hu]
  have hy2:Qg w2' y:=Qg.but hu0 r7 (fun b h1 h2=>r6 b h1 h2) hF.a2
  obtain⟨z0,z1,z2,z3⟩:=Qc (show Blk w2' br [Qhp y.oa y.os.length y.ocap,Qhp y.ra y.rs.length y.rcap,Qhp y.wa y.ws.length y.wcap,Qhp y.da y.ds.length y.dcap] _ from r5)
  refine Ky (v:=y.v) hS hFO rfl rfl (fn:=Tryz.f33) Tryz.func33 hE ?_ (fun d=>.stop (.inl ⟨rfl,?_⟩))
  ·simp[results,Frame.at,Tryz.results33,go_sem,z0,z1,z2,z3,Hp.v]
  ·exact⟨fun b hb=>⟨(hbk b (by omega) (by omega)).trans (hF.old b hb).1,(hF.old b hb).2⟩,by show N≤w2.heap.size;omega,hS.at d,Qg.heap (Vh hE hy2) (by rw[QD,QD];exact Qhq _) (fun b _=>by rw[Q7,Q7];rfl),hF.eo,r4,hoo.trans hF.oo⟩
end
section
variable {h:Hp} {X0:Nat→Bool} {N:Nat} {w0:World} {bx br:Nat} {c:Frame} {cs:List Frame}
theorem Pz (hf:HF h):∀(m n:Nat) (X:Nat→Bool) (SB:Nat→Prop) (gs:Array Goroutine) (w:World) (t:Trace) (sl:Option (Nat×Nat)) (T:Array Value) (y:Hp),y.ws.length<m→Bt X SB gs w t→T.size=13→T[1]? =some (.pointer (some ⟨bx,0,none⟩))→T[2]? =some (.pointer (some ⟨br,0,none⟩))→
 gs[0]? =some (G ((base 33).at ⟨T,[]⟩ [.code btB,.inLoop btB,.inBlock 0]) (c::cs))→BI h X0 N w0 bx br n X y w→
 ∃K gs' w' sl' t' X' SB' n' y',runNT Tryz.prog K (crowd gs w sl) t=(.next (crowd gs' w' sl'),t')∧gs'[0]? =some (G (c.finish (Hp.v y')) cs)∧Bt X' SB' gs' w' t'∧JO h X0 N w0 n' X' y' w'
 |0,_,_,_,_,_,_,_,_,_,hm,_,_,_,_,_,_=>by omega
 |m+1,n,X,SB,gs,w,t,sl,T,y,hm,hB,hT,t1,t2,h0,hI=>by
  obtain⟨n1,gs1,a1,w1,sl1,t1',hr1,hsz1,h01,⟨T1,p1,p2,p3,rfl,hI1⟩,hB1⟩:=JV hB h0 (QbS (Ch:=0) (cs:=c::cs) hT t1 t2 hI) sl
  obtain⟨n2,gs2,w2,sl2,t2',X2,SB2,v,hr2,h02,hB2,hS2,ho2,hz2,hv2,hx2,hoo2⟩:=Qdi y hB1 hI1.sn hI1.hin (hI1.dueOk hf) h01 sl1
  have hI2:=hI1.due hS2 ho2 hz2 hoo2
  obtain⟨n3,gs3,a3,w3,sl3,t3',hr3,hsz3,h03,hnx,hB3⟩:=JV hB2 h02 (QbP (Ch:=0) (c:=c) (cs:=cs) hf p1 p2 p3 hI2 hv2 hx2) sl2
  have hrun:runNT Tryz.prog (n1+(n2+n3)) (crowd gs w sl) t=(.next (crowd gs3 w3 sl3),t3'):=by
   rw[runNT_add,hr1]
   simp only
   rw[runNT_add,hr2]
   exact hr3
  rcases hnx with⟨rfl,hR⟩|⟨T3,y3,q1,q2,q3,rfl,hI3,hlt⟩
  ·exact⟨_,gs3,w3,sl3,t3',X2,SB2,n,y,hrun,h03,hB3,hR⟩
  ·obtain⟨n4,gs4,w4,sl4,t4',X4,SB4,n5,y5,hr4,r⟩:=Pz hf m (n+1) X2 SB2 gs3 w3 t3' sl3 T3 y3 (by omega) hB3 q1 q2 q3 h03 hI3
   exact⟨n1+(n2+n3)+n4,gs4,w4,sl4,t4',X4,SB4,n5,y5,by rw[runNT_add,hrun];exact hr4,r⟩
structure HQ (X:Nat→Bool) (w0 w:World):Prop where
 sn:Sn X w
 eq:w.heap=w0.heap
 oo:OO w w0
theorem HQ.rely {X:Nat→Bool}{w0 w w1:World}(h:HQ X w0 w)(r:AtRel w w1):HQ X w0 w1:=by
 obtain⟨d,rfl⟩:=r
 exact⟨h.sn.at d,h.eq,h.oo⟩
noncomputable def btS:Code:=match Tryz.f33.body with
 |some (.seq r _)=>r
 |_=>.skip
def VM (h:Hp)(n:Nat)(u:World)(a:Act)(w1:World):Prop:=
 a.defers=[]∧a.tmps.size=n∧a.tmps[1]? =some (.pointer (some ⟨u.heap.size,0,none⟩))∧a.tmps[2]? =some (.pointer (some ⟨u.heap.size+1,0,none⟩))∧Blk w1 u.heap.size (Hp.cells h) 27∧Blk w1 (u.heap.size+1) [.slice none 0 0,.slice none 0 0,.slice none 0 0,.slice none 0 0] 27∧Below u.heap.size u w1
theorem Py (h:Hp)(u:World):Blk ((u.alloc (Obj.cells #[Qhp h.oa h.os.length h.ocap,Qhp h.ra h.rs.length h.rcap,Qhp h.wa h.ws.length h.wcap,Qhp h.da h.ds.length h.dcap] 27)).alloc (Obj.cells #[Qhp none 0 0,Qhp none 0 0,Qhp none 0 0,Qhp none 0 0] 27)) u.heap.size (Hp.cells h) 27∧
 Blk ((u.alloc (Obj.cells #[Qhp h.oa h.os.length h.ocap,Qhp h.ra h.rs.length h.rcap,Qhp h.wa h.ws.length h.wcap,Qhp h.da h.ds.length h.dcap] 27)).alloc (Obj.cells #[Qhp none 0 0,Qhp none 0 0,Qhp none 0 0,Qhp none 0 0] 27)) (u.heap.size+1) [.slice none 0 0,.slice none 0 0,.slice none 0 0,.slice none 0 0] 27∧
 Below u.heap.size u ((u.alloc (Obj.cells #[Qhp h.oa h.os.length h.ocap,Qhp h.ra h.rs.length h.rcap,Qhp h.wa h.ws.length h.wcap,Qhp h.da h.ds.length h.dcap] 27)).alloc (Obj.cells #[Qhp none 0 0,Qhp none 0 0,Qhp none 0 0,Qhp none 0 0] 27)):=by
 refine⟨(Blk.new u (Hp.cells h) 27).alloc _,?_,((Below.refl _ _).alloc (Qhq _) _).alloc (by simp) _⟩
 have:=Blk.new (u.alloc (Obj.cells #[Qhp h.oa h.os.length h.ocap,Qhp h.ra h.rs.length h.rcap,Qhp h.wa h.ws.length h.wcap,Qhp h.da h.ds.length h.dcap] 27)) [Qhp none 0 0,Qhp none 0 0,Qhp none 0 0,Qhp none 0 0] 27
 rw[World.size_alloc]at this
 exact this
theorem QbL (h:Hp)(u:World):btS.wp Cut.prog (Z9 (VM h 13 u) fun _ _=>False) ⟨#[h.v]++Array.replicate 12 undef,[]⟩ u:=by
 obtain⟨b1,b2,b3⟩:=Py h u
 simp only[btS,Tryz.f33,Hp.v,Array.replicate_succ,Array.replicate_zero,List.push_toArray,List.append_toArray,List.nil_append,List.cons_append]
 go_wp2
 exact⟨rfl,rfl,rfl,rfl,b1,b2,b3⟩
theorem QbN {X:Nat→Bool}{Ch:Nat}{w:World}(hs:Sn X w)(hh:Qg (emW X w) h):
 Qt Tryz.prog X Ch (fun g w1=>∃(T:Array Value) (bx br:Nat),T.size=13∧T[1]? =some (.pointer (some ⟨bx,0,none⟩))∧T[2]? =some (.pointer (some ⟨br,0,none⟩))∧g=G ((base 33).at ⟨T,[]⟩ [.code btB,.inLoop btB,.inBlock 0]) cs∧BI h X w.heap.size w bx br 0 X h w1) (G (Frame.enter Tryz.prog 33 #[h.v] .normal) cs) w:=by
 rw[enter_at _ Tryz.func33 (show Tryz.f33.body=some (.seq btS (.block 0 (.loop btB)))from rfl)]
 have hF:HQ X w w:=⟨hs,rfl,.refl _⟩
 have hxo:∀b,w.heap.size≤b→X b=false:=fun b hb=>hs.out hb
 generalize hN:w.heap.size=N at hxo
 refine QI (n:=30) ?_
 u_c stepG_seq HQ.rely hF
 refine Goes.stop (fun w1 h1=>?_)
 replace hF:=HQ.rely hF h1
 have hw1:w1.heap=w.heap:=hF.eq
 have hwo:OO w1 w:=hF.oo
 clear h1
 have hok:FOk Tryz.progTables Cut.keep X ((base 33).at ⟨#[h.v]++Array.replicate (Tryz.f33.ntmps-(#[h.v]:Array Value).size) undef,[]⟩ [.code btS,.code (.block 0 (.loop btB))]):=Oo rfl (by
  intro i hi
  simp only[List.mem_cons,List.not_mem_nil,or_false]at hi
  rcases hi with rfl|rfl
  ·exact(show QO Tryz.progTables btS=true by kernel_rfl)
  ·exact(show QO Tryz.progTables (.block 0 (.loop btB))=true by kernel_rfl))
 refine V5 hF.sn hok (R:=fun a w2=>∃u:World,(u.heap=(emW X w1).heap∧OO u w1)∧VM h 13 u a w2) (Rr:=fun _ _=>False) (fun t d=>?_) (fun a w2 w2' hE hS hK hFO hR=>?_) (fun a todo w2 w2' hE hS hK hFO hR=>hR.elim)
 ·refine wp_mono (QbL h _) fun e a w hq=>?_
  cases e with
  |normal=>exact⟨{emW X w1 with tape:=t,drawn:=d},⟨rfl,rfl,rfl⟩,hq⟩
  |_=>exact hq
 obtain⟨u,⟨hu,huo⟩,r1,r2,r3,r4,r5,r6,r7⟩:=hR
 have hoo:OO w2 w:=(OO.trans (OO.trans ⟨hE.os.symm,hE.out.symm⟩ ⟨r7.os,r7.output⟩) huo).trans hwo
 obtain⟨T,D⟩:=a
 simp only at r1 r2 r3 r4
 subst r1
 have us:u.heap.size=N:=by rw[hu,QD,hw1,hN]
 have hbk:∀b,b<N→w2.heap[b]? =w.heap[b]? :=fun b hb=>(Y5 hu hE hK (r7.block b (by omega))).trans (by rw[hw1])
 have hsz:=hK.size
 have hsz1:w1.heap.size=N:=by rw[hw1,hN]
 have hu0:Qg u h:=Qg.heap hh (by rw[us,QD,hN];exact Qhq _) fun b hb=>by rw[hu,Q7,Q7,hw1]
 have hI:BI h X N w u.heap.size (u.heap.size+1) 0 X h w2:=by
  refine⟨fun b hb=>⟨hbk b hb,rfl⟩,by omega,r5.same (JH hE (hxo _ (by omega))),r6.same (JH hE (hxo _ (by omega))),by omega,by omega,by omega,hxo _ (by omega),hxo _ (by omega),hS,Vh hE (hu0.below r7 (Qhq _)),hu0.av (Qhq _),hu0.av (by omega),⟨rfl,rfl,rfl,rfl⟩,hoo⟩
 clear hF hok hE hS hK hFO r5 r6 r7 hbk hu0
 refine QI (n:=5) ?_
 u_c stepG_block BI.rely hI
 u_c stepG_loop BI.rely hI
 refine Goes.stop (fun w3 h3=>.stop ?_)
 exact⟨T,_,_,r2,r3,r4,rfl,BI.rely hI h3⟩
theorem QbQ (hf:HF h){X:Nat→Bool}{SB:Nat→Prop}{gs:Array Goroutine}{w:World}{t:Trace}(hB:Bt X SB gs w t)(hs:Sn X w)(hh:Qg (emW X w) h)(h0:gs[0]? =some (G (Frame.enter Tryz.prog 33 #[h.v] .normal) (c::cs)))(sl:Option (Nat×Nat)):
 ∃K gs' w' sl' t' X' SB' n' y',runNT Tryz.prog K (crowd gs w sl) t=(.next (crowd gs' w' sl'),t')∧gs'[0]? =some (G (c.finish (Hp.v y')) cs)∧Bt X' SB' gs' w' t'∧JO h X w.heap.size w n' X' y' w':=by
 obtain⟨n1,gs1,a1,w1,sl1,t1',hr1,hsz1,h01,⟨T,bx,br,p1,p2,p3,rfl,hI⟩,hB1⟩:=JV hB h0 (QbN (Ch:=0) (cs:=c::cs) hs hh) sl
 obtain⟨n4,gs4,w4,sl4,t4',X4,SB4,n5,y5,hr4,r⟩:=Pz hf (h.ws.length+1) 0 X SB gs1 w1 t1' sl1 T h (by omega) hB1 p1 p2 p3 h01 hI
 exact⟨n1+n4,gs4,w4,sl4,t4',X4,SB4,n5,y5,by rw[runNT_add,hr1];exact hr4,r⟩
end
end Co
end Go.Proofs.YtcpnkpogebjieaaGreat
