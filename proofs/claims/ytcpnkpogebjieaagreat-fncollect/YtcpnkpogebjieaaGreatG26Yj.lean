/- dueOf beside goroutines that only leave: the sorting, and the way back to the caller. -/
import Derived.Conc.CompanyCalls
import Derived.Test.YtcpnkpogebjieaaGreatG25Yn
open List renaming mem_cons_of_mem→Qhp,mem_cons_self→Qhq,length_map→Qht,map_cons→Qhu,nil_append→Qhv,getElem?_cons_zero→Qhw,getElem?_cons_succ→Qhx
open Go.Value renaming int→Qhr
open Go.World renaming cell?→Qhs
set_option maxRecDepth 100000
set_option maxHeartbeats 2000000
namespace Go.Proofs.YtcpnkpogebjieaaGreat
namespace Co
open Go.Conc Go.ConcN Go.RowKit Go.Conc.Lib Go.ConcR.Gen
open Go.ConcR (DC0 WgAt)
set_option linter.unusedSimpArgs false
theorem QbU {X:Nat→Bool}{Ch:Nat}{Fin:Goroutine→World→Prop}{f:FuncId}{args:Array Value}{c:Frame}{cs:List Frame}{w:World}(hk:Cut.keep f=true)(hs:Sn X w){R:Value→World→Prop}
 (H:∀t d,Calls Cut.prog f args {emW X w with tape:=t,drawn:=d} fun e w1=>∃v,e=.returned v∧R v w1)
 (K:∀v w1 w1',Em X w1 w1'→Sn X w1→Qy X w w1→R v w1'→Qt Tryz.prog X Ch Fin (G (c.finish v) cs) w1):
 Qt Tryz.prog X Ch Fin (G (Frame.enter Tryz.prog f args .normal) (c::cs)) w:=by
 refine Pc (Qbd (c:=c) (cs:=cs) Cut.cut hk hs.xok hs.wok H) ?_
 rintro g w1 ⟨v,w1',rfl,hE,hX,hW,hKp,_,hR⟩
 refine K v w1 w1' hE ⟨hX,fun r o ho=>hW r o ?_⟩ hKp hR
 rw[hE.heap r,←Q7]
 exact ho
structure RB (X:Nat→Bool) (N1 Ch:Nat) (wJ:World) (v:Value) (zs:List Int) (w:World):Prop where
 low:∀b,b<N1→b≠Ch→w.heap[b]? =wJ.heap[b]?
 big:N1≤w.heap.size
 row:Qa w N1 v zs
 sn:Sn X w
 oo:OO w wJ
theorem RB.rely {X:Nat→Bool}{N1 Ch:Nat}{wJ:World}{v:Value}{zs:List Int}{w w1:World}(h:RB X N1 Ch wJ v zs w)(r:AtRel w w1):RB X N1 Ch wJ v zs w1:=by
 obtain⟨d,rfl⟩:=r
 exact⟨h.low,h.big,h.row,h.sn.at d,h.oo⟩
section
variable {X:Nat→Bool} {wJ:World} {Ch cap:Nat} {cs:List Frame} {c:Frame}
theorem Qdc {zs:List Int}(hl:zs.length<1000000){w:World}{X0:Nat→Bool}{T2 T:Array Value}{v:Value}(hT2:T2.size=40)(hT:T.size=16)(hv:T[3]? =some v)(hio:InO X0 wJ.heap.size Ch cap wJ (zs.map (Qhr .i64)) [] v w)(hs:Sn X w)(hxv:∀b,v.ownBlock=some b→X b=false):
 Qt Tryz.prog X Ch (fun g' w'=>∃v,g'=G (c.finish v) cs∧RB X wJ.heap.size Ch wJ v (srt zs) w'∧∀b,v.ownBlock=some b→X b=false) (G (Frame.enter Tryz.prog 146 #[v] .normal) (Ku T::Vg T2::c::cs)) w:=by
 have hrow:Qa w wJ.heap.size v zs:=by
  have:=hio.row
  rw[Qht]at this
  exact this
 refine QbU (R:=fun u w1=>u=.tuple #[]∧Qa w1 wJ.heap.size v (srt zs)∧∃t d,({emW X w with tape:=t,drawn:=d}:World).grownBy w1 v.ownBlock) (by kernel_rfl) hs (fun t d=>?_) (fun u w1 w1' hE hS1 hKp hR=>?_)
 ·have h1:Qa {emW X w with tape:=t,drawn:=d} wJ.heap.size v zs:=ZP hrow fun b hb=>Z7 (hxv b hb)
  refine(Qf5 h1 hl).mono ?_
  rintro e w1 ⟨rfl,h2,h3⟩
  exact⟨_,rfl,rfl,h2,t,d,h3⟩
 obtain⟨rfl,hr1,t,d,hgr⟩:=hR
 have hown:=hrow.lt
 have hlow:∀b,b<w.heap.size→v.ownBlock≠some b→w1.heap[b]? =w.heap[b]? :=fun b hb hne=>by
  cases hxb:X b with
  |true=>exact hKp.ob b hxb
  |false=>
   have h1:=hgr.block b (by show b<(emW X w).heap.size;rw[QD];exact hb) (Ne.symm hne)
   rw[JH hE hxb,h1]
   exact Z7 hxb
 have hF:RB X wJ.heap.size Ch wJ v (srt zs) w1:=
  ⟨fun b h1 h2=>(hlow b (by have:=hio.big;omega) fun e=>by have:=(hown b e).1;omega).trans (hio.low b h1 h2),Nat.le_trans hio.big hKp.size,ZP hr1 fun b hb=>JH hE (hxv b hb),hS1,OO.trans ⟨hE.os.symm.trans hgr.os,hE.out.symm.trans hgr.output⟩ hio.oo⟩
 clear hrow hr1 hgr hown hlow hio hE hS1 hKp hs
 obtain⟨v0,v1,v2,v3,v4,v5,v6,v7,v8,v9,v10,v11,v12,v13,v14,v15,rfl⟩:=VU T hT
 simp only[List.getElem?_toArray,Qhw,Qhx,Option.some.injEq]at hv
 subst hv
 obtain⟨u0,u1,u2,u3,u4,u5,u6,u7,u8,u9,u10,u11,u12,u13,u14,u15,u16,u17,u18,u19,u20,u21,u22,u23,u24,u25,u26,u27,u28,u29,u30,u31,u32,u33,u34,u35,u36,u37,u38,u39,rfl⟩:=Ut T2 hT2
 rw[Ku,Frame.finish_at]
 simp only[Qat,ioF,ioE,Tryz.f113,List.getElem?_toArray,Qhx,Qhw,Option.bind_some]
 refine QI (n:=40) ?_
 walk_nrm
 u_c stepG_region_end RB.rely hF
 u_c stepG_seq RB.rely hF
 u_reg RB.rely hF
 u_op RB.rely hF
 u_op RB.rely hF
 u_c stepG_region_end RB.rely hF
 u_c stepG_ret' RB.rely hF
 simp only[Vg,Ow,P3,UA,J2,Tryz.f81]
 u_leave1 Tryz.func113 RB.rely hF
 u_op RB.rely hF
 u_c stepG_region_end RB.rely hF
 u_c stepG_ret' RB.rely hF
 u_in RB.rely hF
 rw[stepG_leave rfl rfl Tryz.func81 (resultsC_tmp (P:=Tryz.prog) (fn:=Tryz.f81) (t:=2) rfl _ _).1 (resultsC_tmp (P:=Tryz.prog) (fn:=Tryz.f81) (t:=2) rfl _ _).2]
 simp only[goes_go]
 refine⟨by u_nil,?_⟩
 exact Goes.stop (fun w9 h9=>.stop ⟨v3,rfl,RB.rely hF h9,hxv⟩)
end
end Co
namespace Co
open Go.Conc Go.ConcN Go.RowKit Go.Conc.Lib Go.ConcR.Gen Go.ConcN.Gen
open Go.ConcR (KK wgBlock WgAt stA smA rd wr mk Payload Aside2 DC0 ofEvent_cell)
def cst (ks:List Int):List Int→Nat
 | []=>1
 |p::l=>(if ks.getD p.toNat 0=4 then cst ks l+7 else cst ks l+1)+6
def cbd (ks wh:List Int)(ws:List (Int×Int)):List Int→Nat
 | []=>0
 |p::l=>if ks.getD p.toNat 0=4 then cbd ks wh ws l+(hs p wh ws+1+4+8)else cbd ks wh ws l
def crs (ks wh:List Int)(ws:List (Int×Int)):List Int→List (List Value)
 | []=>[]
 |p::l=>if ks.getD p.toNat 0=4 then Jr p wh 0 ws::crs ks wh ws l else crs ks wh ws l
section
variable [Payload] {S:Ph} {w0:World} {bh bw bt:Nat} {wa:Option Addr} {wcap:Nat} {ws:List (Int×Int)} {gW:Nat} {wh:List Int} {xa:Option Addr} {xcap:Nat} {X:List Int} {oa:Option Addr} {ocap:Nat} {ks:List Int}
theorem Oc (hP:S.P=Tryz.prog)(hty:S.ty=Tryz.link.tWg)(hSB:∀b,S.SB b→(b<S.Low∧b≠S.Wg∧b≠S.Ch)∨b=S.Wg)(hD:Dat S w0 bh bw bt wa wcap ws gW wh)(hC:U1 S w0 bh xa X oa ocap ks){K1:List Item}{cs:List Frame}:
 ∀(l:List Int) (i:Nat),X.drop i=l→i≤X.length→∀T,DH S.Wg bh bw bt xa X.length xcap i T→∀own w,CF S w0 own w→S.Wg∉own→
  Ym S (YY S.Wg bh bt K1 cs) (cst ks l) (cbd ks wh ws l) own (crs ks wh ws l) 0 0 (G ((base 81).at ⟨T,[]⟩ (.code Z6:: .inLoop Z6:: .inBlock 0:: .code J2::K1)) cs) w
 | [],i,hl,hi,T,hT,own,w,hF,hW=>by
   have:i=X.length:=by
    have:=congrArg List.length hl
    simp at this
    omega
   subst this
   exact Qdd hP hty hT hF
 |p::l,i,hl,hi,T,hT,own,w,hF,hW=>by
  have hlt:i<X.length:=by
   have:=congrArg List.length hl
   simp at this
   omega
  have hx:X[i]=p∧X.drop (i+1)=l:=by
   rw[List.drop_eq_getElem_cons hlt]at hl
   exact⟨(List.cons.inj hl).1,(List.cons.inj hl).2⟩
  have ih:=Oc hP hty hSB hD hC (K1:=K1) (cs:=cs) l (i+1) hx.2 (by omega)
  refine Qdh hP hty hSB hD hC hlt hx.1 rfl (s:=cst ks l) (bd:=cbd ks wh ws l) (rest:=crs ks wh ws l) (fun h=>?_) (fun h=>?_) (fun T hT own w hF hW=>ih T hT own w hF hW) hT hF hW
  ·exact⟨if_neg h,if_neg h,if_neg h⟩
  ·exact⟨if_pos h,if_pos h,if_pos h⟩
omit [Payload]in
theorem V1 {L:Nat→List Value}:∀ {j:Nat},(∀i,i<j→L i=[])→Z4 j L=[]
 |0,_=>rfl
 |j+1,h=>by rw[Z4,V1 fun i hi=>h i (by omega),h j (by omega)];rfl
theorem Qdg (hP:S.P=Tryz.prog)(hty:S.ty=Tryz.link.tWg)(hG:Geo S)(hSC:¬S.SB S.Ch)(hD:Dat S w0 bh bw bt wa wcap ws gW wh)(hC:U1 S w0 bh xa X oa ocap ks){K1:List Item}{cs:List Frame}{T:Array Value}(hT:DH S.Wg bh bw bt xa X.length xcap 0 T)
 {gs:Array Goroutine}{sl:Option (Nat×Nat)}{t:Trace}{q:Nat→Nat}{Shun:Loc→Prop}{B cap sn rn:Nat}{tm:Bool}
 (ha:gs[0]? =some (G ((base 81).at ⟨T,[]⟩ (.code Z6:: .inLoop Z6:: .inBlock 0:: .code J2::K1)) cs))(hsz:gs.size=S.m0)(hL:Leavers Tryz.prog t gs q)(hPast:Past Shun B t)(hSh:∀l,Shun l→ShS S l)(hQ:Quiet (ShS S) t)
 (hse:∀i a,touchAt t i=some a→a.loc.low w0.heap.size∧a.loc.isMemory=true)(hg:∀(i:Nat) (op:MemOp),t[i]? =some op→op.g<S.m0)(hn0:S.n0=t.size)(hLow:S.Low=w0.heap.size)(hwg:WgAt S.ty S.Wg w0 0 0)
 (hch:w0.heap[S.Ch]? =some (.chan cap #[] false sn rn tm))(hAll:(crs ks wh ws X).flatten.length≤cap)(hN:(crs ks wh ws X).length<1000000):
 ∃n gs' w' sl' t' T' q' B' buf s r tm',runNT Tryz.prog n (crowd gs w0 sl) t=(.next (crowd gs' w' sl'),t')∧gs'[0]? =some (G ((Y9 T' K1).finish (.tuple #[])) cs)∧DW bh bt T'∧Leavers Tryz.prog t' gs' q'∧Past (ShS S) B' t'∧Quiet (ShS S) t'∧
  (∀i a,touchAt t' i=some a→a.loc.low w'.heap.size∧a.loc.isMemory=true)∧(∀(i:Nat) (op:MemOp),t'[i]? =some op→op.g<gs'.size)∧(∀b,b<S.Low→b≠S.Wg→b≠S.Ch→w'.heap[b]? =w0.heap[b]?)∧S.Low≤w'.heap.size∧WgAt S.ty S.Wg w' 0 0∧
  w'.heap[S.Ch]? =some (.chan cap buf false s r tm')∧buf.toList.Perm (crs ks wh ws X).flatten∧OO w' w0:=by
 have hSB:∀b,S.SB b→(b<S.Low∧b≠S.Wg∧b≠S.Ch)∨b=S.Wg:=fun b hb=>by
  by_cases e:b=S.Wg
  ·exact .inr e
  ·exact .inl ⟨hG.sb b hb,e,fun e'=>hSC (e'▸hb)⟩
 have hm1:=hG.m1
 have hF:CF S w0 [] w0:=⟨fun _ _ _ _=>rfl,⟨_,_,hwg⟩,fun b hb=>by cases hb⟩
 have hcs:CSt S (YY S.Wg bh bt K1 cs) (VO S.Wg bh bt K1 cs) (.st (cst ks X) (cbd ks wh ws X) (crs ks wh ws X) 0) [] 0 0 (G ((base 81).at ⟨T,[]⟩ (.code Z6:: .inLoop Z6:: .inBlock 0:: .code J2::K1)) cs) w0:=
  .st (Goes.stop fun w1 h1=>Oc hP hty hSB hD hC X 0 rfl (Nat.zero_le _) T hT [] w1 (hF.rely h1) (by simp))
 have hperm:∀l,¬ShS S l→Perm t 0 l:=fun l hl i a hi he=>by
  rcases hPast.known i a hi (hse i a hi).2 with h|h
  ·exact h
  ·exact absurd (he▸hSh _ h.1) hl
 have hct:CT (ShS S) (OwO fun _=>[]) (RdS S) t (S.m0-1):=
  ⟨hQ,fun k _ _ l ⟨_,a,_,h⟩=>(by cases h),fun k _ hk l ⟨h,_⟩=>(by omega),fun l hs _=>hperm l hs,fun l hs _=>PermW.of (hperm l hs),hPast.clean,fun i op hi=>by have:=hg i op hi;omega⟩
 have hcom:Com S w0 cap (crs ks wh ws X).flatten (S.m0-1) gs w0 t (fun i=>⟨1,q (i+1),Deaf t (i+1)⟩) (fun _=>[]) (fun _=>[]) (crs ks wh ws X) 0:=by
  refine⟨by omega,by omega,fun i hi=>?_,hct,hse,fun i hi ha'=>?_,by omega,hPast.hears,fun i _=>rfl,fun i hi hm=>by omega,fun i _ _=>rfl,fun k i a _ _ ha'=>?_,fun i k hk hk0 hgi hc=>?_,fun _ _ _ _=>rfl,by omega,⟨fun k b hb=>(by cases hb),fun k k' b hb=>(by cases hb),fun k _=>rfl⟩,?_,.refl _⟩
  ·obtain⟨g,hg'⟩:∃g,gs[i+1]? =some g:=⟨_,Array.getElem?_eq_getElem (show i+1<gs.size by omega)⟩
   refine⟨g,hg',.quit ?_⟩
   rw[hP]
   exact hL.old (i+1) g (by omega) hg'
  ·have:=lt_of_act? ha'
   omega
  ·rcases hPast.known i a ha' (hse i a ha').2 with h|h
   ·exact .inl h
   ·exact .inr ⟨hSh _ h.1,h.2⟩
  ·exact hPast.over i k hgi hk0 hc
  ·refine⟨#[],sn,rn,tm,hch,?_⟩
   rw[V1 fun _ _=>rfl]
   simp
 have hVc:Vc (S.m0-1) (fun i=>(⟨1,q (i+1),Deaf t (i+1)⟩:WD))=0:=by
  have:∀j,(sumTo j fun i=>cnt (⟨1,q (i+1),Deaf t (i+1)⟩:WD))=0:=fun j=>by
   induction j with
   |zero=>rfl
   |succ j ih=>simp only[sumTo,ih];rfl
  exact this _
 have hInv:Inv S (YY S.Wg bh bt K1 cs) (VO S.Wg bh bt K1 cs) w0 cap (crs ks wh ws X).flatten (crs ks wh ws X).length (ph2 (crs ks wh ws X).length (Vc (S.m0-1) (fun i=>(⟨1,q (i+1),Deaf t (i+1)⟩:WD))) (.st (cst ks X) (cbd ks wh ws X) (crs ks wh ws X) 0)+Ssum (S.m0-1) (fun i=>(⟨1,q (i+1),Deaf t (i+1)⟩:WD)),0+2*Fsum (S.m0-1) (fun i=>(⟨1,q (i+1),Deaf t (i+1)⟩:WD))) (crowd gs w0 sl) t:=by
  refine⟨gs,w0,sl,S.m0-1,_,fun _=>[],fun _=>[],.st (cst ks X) (cbd ks wh ws X) (crs ks wh ws X) 0,0,0,_,0,0,rfl,ha,hcs,hcom,hwg,?_,?_,Nat.zero_le _,by simp,rfl⟩
  ·have:=Md.opn (j:=S.m0-1) (D:=fun i=>(⟨1,q (i+1),Deaf t (i+1)⟩:WD)) (tag:=.st (cst ks X) (cbd ks wh ws X) (crs ks wh ws X) 0) trivial (fun i _=>.inr rfl) (by simp)
   rw[hVc]at this
   simpa[Tg.pend]using this
  ·rw[hVc]
   simp[Tg.rest]
 obtain⟨n,m',t',hrun,gs',w',sl',j,D,O,L,a,rfl,ha',⟨T',hT',rfl,_⟩,hcom',hwg',hq,hacq⟩:=Qfr hG (fun g w ⟨_,_,_,h,_⟩=>by rw[h];rfl) (fun g w ⟨_,_,h,_⟩=>by rw[h];rfl) (Qc1 hP hty) hAll hN _ _ _ hInv
 obtain⟨⟨B',hB'⟩,hL'⟩:=Qea hG hcom' hq hacq
 rw[hP]at hrun hL'
 obtain⟨buf,s,r,tm',hc',hp'⟩:=hcom'.ch
 refine⟨n,gs',w',sl',t',T',_,B',buf,s,r,tm',hrun,ha',hT',hL',hB',hcom'.ct.quiet,hcom'.seen,fun i op hi=>?_,hcom'.low,hcom'.big,hwg',hc',?_,hcom'.oo⟩
 ·have:=hcom'.ct.gs i op hi
  have:=hcom'.size
  omega
 ·rw[V1 fun i hi=>?_]at hp'
  ·simpa using hp'
  ·obtain⟨g,_,hs⟩:=hcom'.wk i hi
   exact(hs.quits (hq i hi)).2
end
end Co
namespace Co
open Go.RowKit
def ZO (R:List Int)(wh:List Int)(x:Int×Int):Bool:=decide (x.1∈R)&&decide (wh.getD x.2.toNat 0<0)
def Zb (R wh:List Int):Nat→List (Int×Int)→List Int
 |_,[]=>[]
 |k,x::l=>if ZO R wh x then(k:Int)::Zb R wh (k+1) l else Zb R wh (k+1) l
def Js (pv:Int)(wh:List Int):Nat→List (Int×Int)→List Int
 |_,[]=>[]
 |k,x::l=>if Jt pv wh x then(k:Int)::Js pv wh (k+1) l else Js pv wh (k+1) l
theorem Qas (pv:Int)(wh:List Int):∀(l:List (Int×Int)) (k:Nat),Jr pv wh k l=(Js pv wh k l).map (Qhr .i64)
 | [],_=>rfl
 |x::l,k=>by
  simp only[Jr,Js,Qas pv wh l (k+1)]
  split<;>simp
theorem V6 (ks wh:List Int)(ws:List (Int×Int)):∀X:List Int,crs ks wh ws X=(X.filter fun p=>decide (ks.getD p.toNat 0=4)).map fun p=>(Js p wh 0 ws).map (Qhr .i64)
 | []=>rfl
 |p::X=>by
  simp only[crs,V6 ks wh ws X,List.filter_cons]
  by_cases h:ks.getD p.toNat 0=4
  ·simp only[h,if_true,decide_true,Qhu,Qas]
  ·simp only[h,if_false,decide_false,Bool.false_eq_true]
theorem QaB (wh:List Int)(k:Nat)(x:Int×Int)(l:List (Int×Int)):∀R:List Int,R.Nodup→
 ((R.map fun p=>Js p wh k (x::l)).flatten).Perm ((if ZO R wh x then [(k:Int)]else [])++(R.map fun p=>Js p wh (k+1) l).flatten)
 | [],_=>by simp[ZO]
 |p::R,hn=>by
  have hp:p∉R∧R.Nodup:=by simpa using hn
  have ih:=QaB wh k x l R hp.2
  simp only[Qhu,List.flatten_cons,Js]
  by_cases hd:wh.getD x.2.toNat 0<0
  ·by_cases he:x.1=p
   ·have h1:Jt p wh x=true:=by unfold Jt;rw[decide_eq_true he,decide_eq_true hd];rfl
    have h2:ZO (p::R) wh x=true:=by unfold ZO;rw[decide_eq_true hd,decide_eq_true (by rw[he];exact Qhq)];rfl
    have h3:ZO R wh x=false:=by unfold ZO;rw[decide_eq_false (by rw[he];exact hp.1)];rfl
    rw[h3]at ih
    simp only[h1,h2,if_true,Bool.false_eq_true,if_false,Qhv,List.cons_append]at ih⊢
    exact List.Perm.cons _ (List.Perm.append_left _ ih)
   ·have h1:Jt p wh x=false:=by unfold Jt;rw[decide_eq_false he];rfl
    have h2:ZO (p::R) wh x=ZO R wh x:=by unfold ZO;simp[he]
    rw[h1,h2]
    simp only[Bool.false_eq_true,if_false]
    refine(List.Perm.append_left _ ih).trans ?_
    rw[←List.append_assoc,←List.append_assoc]
    exact List.Perm.append_right _ List.perm_append_comm
  ·have h1:Jt p wh x=false:=by unfold Jt;rw[decide_eq_false hd,Bool.and_false]
   have h2:∀R,ZO R wh x=false:=fun R=>by unfold ZO;rw[decide_eq_false hd,Bool.and_false]
   rw[h1,h2]
   rw[h2]at ih
   simp only[Bool.false_eq_true,if_false,Qhv]at ih⊢
   exact List.Perm.append_left _ ih
theorem Ps (R wh:List Int)(hn:R.Nodup):∀(l:List (Int×Int)) (k:Nat),((R.map fun p=>Js p wh k l).flatten).Perm (Zb R wh k l)
 | [],k=>by
   have:(R.map fun p=>Js p wh k []).flatten=[]:=by
    rw[List.flatten_eq_nil_iff]
    intro x hx
    obtain⟨p,_,rfl⟩:=List.mem_map.1 hx
    rfl
   rw[this]
   exact List.Perm.refl _
 |x::l,k=>by
  refine(QaB wh k x l R hn).trans ?_
  have ih:=Ps R wh hn l (k+1)
  simp only[Zb]
  by_cases h:ZO R wh x
  ·simp only[h,if_true,List.singleton_append]
   exact List.Perm.cons _ ih
  ·simp only[h,Bool.false_eq_true,if_false,Qhv]
   exact ih
theorem Vf (R wh:List Int):∀(l:List (Int×Int)) (k:Nat),(Zb R wh k l).length≤l.length
 | [],_=>by simp[Zb]
 |x::l,k=>by
  have:=Vf R wh l (k+1)
  simp only[Zb]
  split<;>simp<;>omega
theorem P1 (R wh:List Int):∀(l:List (Int×Int)) (k:Nat),∀z∈Zb R wh k l,(k:Int)≤z
 | [],_,z,hz=>by simp[Zb]at hz
 |x::l,k,z,hz=>by
  have ih:=P1 R wh l (k+1)
  simp only[Zb]at hz
  split at hz
  ·rcases List.mem_cons.1 hz with rfl|hz
   ·omega
   ·have:=ih z hz;omega
  ·have:=ih z hz;omega
theorem P2 (R wh:List Int):∀(l:List (Int×Int)) (k:Nat),(Zb R wh k l).Pairwise (· ≤·)
 | [],_=>by simp[Zb]
 |x::l,k=>by
  have ih:=P2 R wh l (k+1)
  simp only[Zb]
  split
  ·refine List.pairwise_cons.2 ⟨fun z hz=>?_,ih⟩
   have:=P1 R wh l (k+1) z hz
   omega
  ·exact ih
theorem QaC (zs:List Int):(srt zs).Perm zs:=List.mergeSort_perm zs _
theorem Qgh (zs:List Int):(srt zs).Pairwise (· ≤·):=by
 have:=List.pairwise_mergeSort (le:=fun x y:Int=>decide (x≤y)) (fun a b c h1 h2=>by simp only[decide_eq_true_eq]at *;omega) (fun a b=>by simp only[Bool.or_eq_true,decide_eq_true_eq];omega) zs
 exact this.imp fun h=>by simpa using h
theorem Qgg {zs ys:List Int}(h:zs.Perm ys)(hs:ys.Pairwise (· ≤·)):srt zs=ys:=
 List.Perm.eq_of_pairwise (fun _ _ _ _ h1 h2=>Int.le_antisymm h1 h2) (Qgh zs) hs ((QaC zs).trans h)
theorem PA {ks wh:List Int}{ws:List (Int×Int)}{X:List Int}(hn:X.Nodup){b:List Value}(hb:b.Perm (crs ks wh ws X).flatten):
 ∃zs:List Int,b=zs.map (Qhr .i64)∧srt zs=Zb (X.filter fun p=>decide (ks.getD p.toNat 0=4)) wh 0 ws:=by
 have hf:(crs ks wh ws X).flatten=(((X.filter fun p=>decide (ks.getD p.toNat 0=4)).map fun p=>Js p wh 0 ws).flatten).map (Qhr .i64):=by
  rw[V6,List.map_flatten,List.map_map]
  rfl
 rw[hf]at hb
 have hi:∀v∈b,∃i,v=Qhr .i64 i:=fun v hv=>by
  obtain⟨i,_,rfl⟩:=List.mem_map.1 (hb.mem_iff.1 hv)
  exact⟨i,rfl⟩
 refine⟨b.map intOf,?_,Qgg ?_ (P2 _ _ _ _)⟩
 ·rw[List.map_map]
  conv=>lhs;rw[←List.map_id b]
  refine List.map_congr_left fun v hv=>?_
  obtain⟨i,rfl⟩:=hi v hv
  rfl
 ·have h1:=hb.map intOf
  rw[List.map_map]at h1
  have h2:((((X.filter fun p=>decide (ks.getD p.toNat 0=4)).map fun p=>Js p wh 0 ws).flatten).map (intOf∘Qhr .i64))=((X.filter fun p=>decide (ks.getD p.toNat 0=4)).map fun p=>Js p wh 0 ws).flatten:=by
   conv=>rhs;rw[←List.map_id (((X.filter fun p=>decide (ks.getD p.toNat 0=4)).map fun p=>Js p wh 0 ws).flatten)]
   rfl
  rw[h2]at h1
  exact h1.trans (Ps _ wh (hn.filter _) ws 0)
theorem PL {ks wh:List Int}{ws:List (Int×Int)}{X:List Int}(hn:X.Nodup):(crs ks wh ws X).flatten.length≤ws.length:=by
 obtain⟨zs,h1,h2⟩:=PA (ks:=ks) (wh:=wh) (ws:=ws) hn (List.Perm.refl (crs ks wh ws X).flatten)
 rw[h1,Qht,←(QaC zs).length_eq,h2]
 exact Vf _ _ _ _
theorem Qb9 {ks wh:List Int}{ws:List (Int×Int)}{X:List Int}:(crs ks wh ws X).length≤X.length:=by
 rw[V6,Qht]
 exact List.length_filter_le _ _
end Co
namespace Co
open Go.Conc Go.ConcN Go.RowKit Go.Conc.Lib
open Go.ConcR (WgAt)
theorem Qf0 {X:Nat→Bool}{w:World}{b o:Nat}{v:Value}(h:(emW X w).cell? ⟨b,o,none⟩=some v):X b=false∧w.cell? ⟨b,o,none⟩=some v:=by
 have hx:X b=false:=by
  cases hx:X b with
  |false=>rfl
  |true=>
   unfold Qhs at h
   rw[Q7]at h
   cases ho:w.heap[b]? with
   |none=>simp[ho]at h
   |some ob=>cases ob<;>simp[ho,emO,hx]at h
 refine⟨hx,?_⟩
 rw[←h]
 exact(cell_of_block (Z7 hx) o).symm
def QA (h:Hp):List Int:=Zb ((reachP h.p).filter fun p=>decide ((h.os.map (·.k)).getD p.toNat 0=4)) (whs (reachP h.p) h.os.length) 0 h.ws
structure Pl (h:Hp):Prop where
 s:Zl h
 t:∀i (hi:i<h.os.length),h.os[i].t.size≤maxLen
 c:∀(i:Nat) (hi:i<h.os.length),h.os[i].r.length≤h.os[i].rcap
 n:h.os.length≤60
 p:Qq h.os.length (reachP h.p)
 m:h.ws.length≤20
 w:∀k (hk:k<h.ws.length),0≤h.ws[k].2∧h.ws[k].2<(h.os.length:Int)
section
variable {X:Nat→Bool} {SB:Nat→Prop} {gs:Array Goroutine} {w:World} {t:Trace} {c:Frame} {cs:List Frame}
theorem Qdi (h:Hp)(hB:Bt X SB gs w t)(hS:Sn X w)(hh:Qg (emW X w) h)(hd:Pl h)(h0:gs[0]? =some (G (Frame.enter Tryz.prog 81 #[h.v] .normal) (c::cs)))(sl:Option (Nat×Nat)):
 ∃N gs' w' sl' t' X' SB' v,runNT Tryz.prog N (crowd gs w sl) t=(.next (crowd gs' w' sl'),t')∧gs'[0]? =some (G (c.finish v) cs)∧Bt X' SB' gs' w' t'∧Sn X' w'∧(∀b,b<w.heap.size→w'.heap[b]? =w.heap[b]? ∧X' b=X b)∧w.heap.size≤w'.heap.size∧
  Qa w' w.heap.size v (QA h)∧(∀b,v.ownBlock=some b→X' b=false)∧OO w' w:=by
 letI:Go.ConcR.Payload:=⟨3⟩
 obtain⟨n0,gs0,a0,wm,sl0,t0,hr0,hsz0,h00,⟨T0,bh,bw,bt,Ch,gW,xa,xcap,rfl,z0,z1,z3,z4,z5,hF0⟩,hB0⟩:=JV hB h0 (Qde (Ch0:=0) h w hS hh hd.s hd.t hd.c hd.n hd.p) sl
 obtain⟨Wg,hWg⟩:∃Wg,Wg=wm.heap.size:=⟨_,rfl⟩
 have hBm:Bt (fun r=>X r||r ==Wg) (fun b=>SB b∨b=Wg) gs0 wm t0:=by
  obtain⟨B,hP⟩:=hB0.past
  refine⟨hB0.lv,⟨B,hP.clean,fun i a hi hm=>(hP.known i a hi hm).imp id fun⟨⟨x,h1,h2⟩,h3⟩=>⟨⟨x,h1,.inl h2⟩,h3⟩,hP.over,hP.hears,hP.seen⟩,⟨fun i op x hi hx hs=>?_,hB0.tri.seen,hB0.tri.gs⟩,fun b hb=>?_⟩
  ·obtain⟨y,h1,h2|h2⟩:=hs
   ·exact hB0.tri.quiet i op x hi hx ⟨y,h1,h2⟩
   ·have:=(hB0.tri.seen i x (by rw[touchAt_of hi];exact hx)).1
    rw[h1]at this
    have:y.block<wm.heap.size:=this
    omega
  ·rcases hb with hb|hb
   ·rw[hB.sbx b hb];rfl
   ·simp[hb]
 obtain⟨n1,gs1,a1,w1,sl1,t1,hr1,hsz1,h01,⟨T,rfl,hT,hF⟩,hB1⟩:=JV hBm h00 (Qdf (X':=fun r=>X r||r ==Wg) (Ch0:=0) z0 z1 z3 z4 z5 hF0) sl0
 rw[←hWg]at hT hF
 clear hF0 hBm z0 z1 z3 z4 z5 h00
 unfold YL at hF
 generalize hRX:reachP h.p=RX at hT hF
 have hpl:Qq h.os.length RX:=hRX▸hd.p
 have hnX:RX.length≤60:=by have:=hpl.len;have:=hd.n;omega
 have hnw:=hd.m
 have hnh:=hd.n
 have hbig:=hF.kb.big
 have q0:=hF.kb.bl _ Qhq
 have q1:=hF.kb.bl _ (Qhp _ Qhq)
 have q2:=hF.kb.bl _ (Qhp _ (Qhp _ Qhq))
 have q3:=hF.kb.bl _ (Qhp _ (Qhp _ (Qhp _ Qhq)))
 have q4:=hF.kb.bl _ (Qhp _ (Qhp _ (Qhp _ (Qhp _ Qhq))))
 have q5:=hF.kb.bl _ (Qhp _ (Qhp _ (Qhp _ (Qhp _ (Qhp _ Qhq)))))
 have hnd:=hF.kb.nd
 have hnb:=hF.nb
 simp only[Qhu,List.map_nil,List.nodup_cons,List.mem_cons,List.not_mem_nil,or_false,not_or]at hnd q0 q1 q2 q3 q4 q5
 obtain⟨⟨d01,d02,d03,d04,d05⟩,⟨d12,d13,d14,d15⟩,⟨d23,d24,d25⟩,_⟩:=hnd
 have l0:=(Array.getElem?_eq_some_iff.1 q0.1).1
 have l1:=(Array.getElem?_eq_some_iff.1 q1.1).1
 have l2:=(Array.getElem?_eq_some_iff.1 q2.1).1
 have l3:=(Array.getElem?_eq_some_iff.1 q3.1).1
 have l4:=(Array.getElem?_eq_some_iff.1 q4.1).1
 have l5:=(Array.getElem?_eq_some_iff.1 q5.1).1
 have xo:=hF.xo
 have sbX:∀b,SB b→X b=true:=hB.sbx
 obtain⟨S,hSd⟩:∃S:Ph,S=⟨Tryz.prog,Tryz.link.tWg,Wg,Ch,w1.heap.size,gs1.size,t1.size,fun b=>SB b∨b=Wg⟩:=⟨_,rfl⟩
 have eP:S.P=Tryz.prog:=by rw[hSd]
 have ety:S.ty=Tryz.link.tWg:=by rw[hSd]
 have eWg:S.Wg=Wg:=by rw[hSd]
 have eCh:S.Ch=Ch:=by rw[hSd]
 have eLow:S.Low=w1.heap.size:=by rw[hSd]
 have em0:S.m0=gs1.size:=by rw[hSd]
 have en0:S.n0=t1.size:=by rw[hSd]
 have eSB:∀b,S.SB b↔(SB b∨b=Wg):=fun b=>by rw[hSd]
 clear hSd
 have hpos:0<gs1.size:=(Array.getElem?_eq_some_iff.1 h01).1
 have hG:Geo S:=⟨(eSB _).2 (.inr eWg),fun b hb=>by
  rw[eLow]
  rcases(eSB b).1 hb with h1|h1
  ·exact hF.sn.xok.lt b (sbX b h1)
  ·rw[h1];exact l0,by rw[eCh,eLow];exact l2,by rw[eCh,eWg];exact fun e=>d02 e.symm,by rw[em0];exact hpos⟩
 have noSB:∀b,X b=false→b≠Wg→¬S.SB b:=fun b h1 h2 h3=>by
  rcases(eSB b).1 h3 with h4|h4
  ·rw[sbX b h4]at h1;cases h1
  ·exact h2 h4
 have okb:∀b,b<w1.heap.size→b≠Wg→b≠Ch→X b=false→Okb S b:=fun b h1 h2 h3 h4=>⟨by rw[eLow];exact h1,by rw[eWg];exact h2,by rw[eCh];exact h3,noSB b h4 h2⟩
 have hold:∀b o v,(emW X w).cell? ⟨b,o,none⟩=some v→b<w.heap.size→Okb S b∧w1.cell? ⟨b,o,none⟩=some v:=fun b o v hc hb=>by
  obtain⟨h1,h2⟩:=Qf0 hc
  exact⟨okb b (by omega) (by omega) (by omega) h1,(cell_of_block (hF.kb.old b hb) o).trans h2⟩
 have hwl:=JM RX h.os.length
 have hDat:Dat S w1 bh bw bt h.wa h.wcap h.ws gW (whs RX h.os.length):=by
  refine⟨by simp[Qhs,q5.1],by rw[hwl];simp[Qhs,q3.1],by rw[eCh];simp[Qhs,q1.1],okb _ l5 (Ne.symm d05) (Ne.symm d25) (xo _ q5.2),okb _ l3 (Ne.symm d03) (Ne.symm d23) (xo _ q3.2),okb _ l1 (Ne.symm d01) d12 (xo _ q1.2),okb _ l4 (Ne.symm d04) (Ne.symm d24) (xo _ q4.2),
   fun k hk=>?_,fun k hk=>?_,fun k hk=>by rw[hwl];exact hd.w k hk,by rw[eLow];exact Nat.le_refl _,by omega,by rw[hwl];omega⟩
  ·obtain⟨b,off,e1,hb,hc⟩:=hh.sw (by omega)
   rw[QD]at hb
   obtain⟨c1,c2⟩:=hc k hk
   exact⟨b,off,e1,(hold _ _ _ c1 hb).1,(hold _ _ _ c1 hb).2,(hold _ _ _ c2 hb).2⟩
  ·simp[Qhs,q4.1,hk]
 have hrowlt:=hF.ow.lt
 have hDatC:U1 S w1 bh xa RX h.oa h.ocap (h.os.map (·.k)):=by
  refine⟨hDat.ohb,by simp[Qhs,q5.1],fun i hi=>?_,fun i hi=>?_,fun i hi=>?_,by rw[eLow];exact Nat.le_refl _,by omega,by simp;omega⟩
  ·obtain⟨a,cp,e1,hseg,_⟩:=hF.ow.form
   cases e1
   obtain⟨b,off,e2,_,hc⟩:=hseg.get hi
   subst e2
   have hb:=hrowlt b rfl
   refine⟨b,off,rfl,okb b hb.2 (fun e=>hnb _ Qhq (by rw[←e];rfl)) (fun e=>hnb _ (Qhp _ (Qhp _ Qhq)) (by rw[←e];rfl)) (xo _ hb.1),hc⟩
  ·have hi':i<h.os.length:=by simpa using hi
   obtain⟨b,off,e1,hb,hc,_⟩:=hh.so.get hi'
   rw[QD]at hb
   refine⟨b,off,e1,(hold _ _ _ hc hb).1,?_⟩
   rw[(hold _ _ _ hc hb).2]
   simp
  ·have:=hpl.rng _ (List.getElem_mem hi)
   simpa using this
 obtain⟨q1',hL1⟩:=hB1.lv
 obtain⟨B1,hP1⟩:=hB1.past
 have hShS:∀l,ShS S l↔ShB (fun b=>SB b∨b=Wg) l:=fun l=>⟨fun⟨a,h1,h2⟩=>⟨a,h1,(eSB _).1 h2⟩,fun⟨a,h1,h2⟩=>⟨a,h1,(eSB _).2 h2⟩⟩
 have hquiet:Quiet (ShS S) t1:=fun i op x hi hx hs=>hB1.tri.quiet i op x hi hx ((hShS _).1 hs)
 obtain⟨n2,gs2,w2,sl2,t2,T2,q2',B2,buf,s2,r2,tm2,hr2,h02,hT2,hL2,hP2,hQ2,hse2,hgs2,hlow2,hbig2,hwg2,hch2,hperm2,hoo2⟩:=Qdg (K1:=[]) (cs:=c::cs) (cap:=h.ws.length) (sl:=sl1) eP ety hG (by rw[eCh];exact noSB Ch (xo _ q2.2) (Ne.symm d02)) hDat hDatC (by rw[eWg];exact hT) h01 em0.symm hL1 hP1 (fun l hl=>(hShS l).2 hl) hquiet hB1.tri.seen (fun i op hi=>by rw[em0];exact hB1.tri.gs i op hi) en0 eLow
  (by rw[eWg,ety];exact q0.1) (by rw[eCh];exact q2.1) (PL hpl.nd) (by have:=Qb9 (ks:=h.os.map (·.k)) (wh:=whs RX h.os.length) (ws:=h.ws) (X:=RX);omega)
 rw[eLow,eWg,eCh]at hlow2
 rw[eLow]at hbig2
 rw[eCh]at hch2
 obtain⟨zs,hbuf,hzs⟩:=PA hpl.nd hperm2
 have hzl:zs.length<1000000:=by
  have h1:=hperm2.length_eq
  have h2:=PL (ks:=h.os.map (·.k)) (wh:=whs RX h.os.length) (ws:=h.ws) hpl.nd
  rw[hbuf,Qht]at h1
  omega
 have eSh:ShS S=ShB (fun b=>SB b∨b=Wg):=funext fun l=>propext (hShS l)
 rw[eSh]at hP2 hQ2
 have hsbx1:∀b,(SB b∨b=Wg)→(X b||b ==Wg)=true:=fun b hb=>by
  rcases hb with hb|hb
  ·rw[sbX b hb];rfl
  ·simp[hb]
 have hB2:Bt (fun r=>X r||r ==Wg) (fun b=>SB b∨b=Wg) gs2 w2 t2:=⟨⟨_,hL2⟩,⟨_,hP2⟩,⟨hQ2,hse2,hgs2⟩,hsbx1⟩
 have x1:∀b,w.heap.size≤b→b≠Wg→(X b||b ==Wg)=false:=fun b h1 h2=>by rw[xo b h1];simpa using h2
 obtain⟨n3,gs3,a3,w3,sl3,t3,hr3,hsz3,h03,⟨T3,hT3,T4,v,hT4,hv4,rfl,hio⟩,hB3⟩:=JV hB2 h02 (Qdj (X:=fun r=>X r||r ==Wg) (wJ:=w2) (Ch:=Ch) (cap:=h.ws.length) (buf:=buf) (cs:=c::cs) hT2
  ⟨fun _ _ _=>rfl,rfl,⟨s2,r2,tm2,hch2⟩,by rw[cell_of_block (hlow2 bt l1 (Ne.symm d01) d12) 0];simp[Qhs,q1.1],x1 bt q1.2 (Ne.symm d01),by omega,.refl _⟩ (by omega) (fun b hb=>x1 b (by omega) (by omega)) (fun u hu=>by rw[hbuf]at hu;obtain⟨i,_,rfl⟩:=List.mem_map.1 hu;exact⟨i,rfl⟩) (by rw[hbuf,Qht];exact hzl) d12) sl2
 rw[hbuf]at hio
 have hio3:=hio.big
 have hv3:=hio.row.lt
 obtain⟨X2,hX2⟩:∃X2:Nat→Bool,∀r,X2 r=true↔(X r=true∨r=Wg∨(w1.heap.size≤r∧v.ownBlock≠some r∧∃o,w3.heap[r]? =some o∧Xob o)):=by
  refine⟨fun r=>@decide _ (Classical.propDecidable (X r=true∨r=Wg∨(w1.heap.size≤r∧v.ownBlock≠some r∧∃o,w3.heap[r]? =some o∧Xob o))),fun r=>?_⟩
  exact @decide_eq_true_iff _ (Classical.propDecidable _)
 have low31:∀b,b<w1.heap.size→b≠Wg→b≠Ch→w3.heap[b]? =w1.heap[b]? :=fun b h1 h2 h3=>(hio.low b (by omega) h3).trans (hlow2 b h1 h2 h3)
 have oldw:∀b,b<w.heap.size→w3.heap[b]? =w.heap[b]? :=fun b hb=>(low31 b (by omega) (by omega) (by omega)).trans (hF.kb.old b hb)
 have x2f:∀r,X2 r=false→X r=false∧r≠Wg∧¬(w1.heap.size≤r∧v.ownBlock≠some r∧∃o,w3.heap[r]? =some o∧Xob o):=fun r hr=>by
  have hn:¬X2 r=true:=by rw[hr];simp
  rw[hX2]at hn
  simp only[not_or]at hn
  exact⟨by simpa using hn.1,hn.2.1,hn.2.2⟩
 have hS3:Sn X2 w3:=by
  refine⟨⟨fun r hr=>?_,fun r o hr ho=>?_⟩,fun r o ho=>?_⟩
  ·rcases(hX2 r).1 hr with h1|h1|⟨_,_,o,h1,_⟩
   ·have:=hS.xok.lt r h1;omega
   ·omega
   ·exact(Array.getElem?_eq_some_iff.1 h1).1
  ·rcases(hX2 r).1 hr with h1|h1|⟨_,_,o',h1,h2⟩
   ·have hlt:=hS.xok.lt r h1
    rw[oldw r hlt]at ho
    exact hS.xok.ob r o h1 ho
   ·subst h1
    rw[hio.low _ (by omega) (Ne.symm (Ne.symm d02))]at ho
    have hw:=hwg2
    rw[eWg,ety]at hw
    rw[show w2.heap[r]? =_ from hw]at ho
    cases ho
    trivial
   ·rw[h1]at ho;cases ho;exact h2
  ·cases hr:X2 r with
   |true=>
    rw[Q7]at ho
    cases h1:w3.heap[r]? with
    |none=>rw[h1]at ho;cases ho
    |some ob=>
     rw[h1]at ho
     simp only[Option.map_some,Option.some.injEq,emO,hr,if_true]at ho
     have hxob:Xob ob:=by
      rcases(hX2 r).1 hr with h2|h2|⟨_,_,o',h2,h3⟩
      ·rw[oldw r (hS.xok.lt r h2)]at h1;exact hS.xok.ob r ob h2 h1
      ·subst h2
       rw[hio.low _ (by omega) (Ne.symm (Ne.symm d02))]at h1
       have hw:=hwg2
       rw[eWg,ety]at hw
       rw[show w2.heap[r]? =_ from hw]at h1
       cases h1
       trivial
      ·rw[h1]at h2;cases h2;exact h3
     cases ob<;>simp[Xob]at hxob<;>simp at ho<;>subst ho<;>trivial
   |false=>
    rw[Z7 hr]at ho
    obtain⟨f1,f2,f3⟩:=x2f r hr
    rcases Nat.lt_or_ge r w1.heap.size with hlt|hge
    ·by_cases hc:r=Ch
     ·subst hc
      obtain⟨b',s',r',tm',_,hcc⟩:=hio.ch
      rw[hcc]at ho
      cases ho
      trivial
     ·rw[low31 r hlt f2 hc]at ho
      exact hF.sn.wok r o (by rw[Z7 f1];exact ho)
    ·by_cases ho':v.ownBlock=some r
     ·obtain⟨_,h2|⟨g,cp,cur,h2,h3,h4,h5⟩⟩:=hio.row
      ·rw[h2.1]at ho';cases ho'
      ·rw[h2]at ho'
       cases ho'
       rw[h4]at ho
       cases ho
       trivial
     ·have hx:¬Xob o:=fun hx=>f3 ⟨hge,ho',o,ho,hx⟩
      cases o<;>first|trivial|exact absurd trivial hx
 have hxv:∀b,v.ownBlock=some b→X2 b=false:=fun b hb=>by
  cases hx:X2 b with
  |false=>rfl
  |true=>
   have hb':=hv3 b hb
   rcases(hX2 b).1 hx with h1|h1|⟨_,h1,_⟩
   ·have:=hS.xok.lt b h1;omega
   ·omega
   ·exact absurd hb h1
 have hB3':Bt X2 (fun b=>SB b∨b=Wg) gs3 w3 t3:=⟨hB3.lv,hB3.past,hB3.tri,fun b hb=>by
  rw[hX2]
  rcases hb with hb|hb
  ·exact .inl (sbX b hb)
  ·exact .inr (.inl hb)⟩
 obtain⟨n4,gs4,a4,w4,sl4,t4,hr4,hsz4,h04,⟨v',rfl,hRB,hxv'⟩,hB4⟩:=JV hB3' h03 (Qdc (X:=X2) (c:=c) (cs:=cs) hzl hT3 hT4 hv4 hio hS3 hxv) sl3
 refine⟨n0+(n1+(n2+(n3+n4))),gs4,w4,sl4,t4,X2,_,v',?_,h04,hB4,hRB.sn,fun b hb=>⟨?_,?_⟩,?_,?_,hxv',hRB.oo.trans (hoo2.trans hF.kb.oo)⟩
 ·rw[runNT_add,hr0]
  simp only
  rw[runNT_add,hr1]
  simp only
  rw[runNT_add,hr2]
  simp only
  rw[runNT_add,hr3]
  exact hr4
 ·rw[hRB.low b (by omega) (by omega),hlow2 b (by omega) (by omega) (by omega)]
  exact hF.kb.old b hb
 ·cases hx:X b with
  |true=>rw[hX2];exact .inl hx
  |false=>
   cases hx2:X2 b with
   |false=>rfl
   |true=>
    rcases(hX2 b).1 hx2 with h1|h1|⟨h1,_⟩
    ·rw[hx]at h1;cases h1
    ·omega
    ·omega
 ·have:=hRB.big
  omega
 ·have hrow:=hRB.row
  rw[hzs]at hrow
  unfold QA
  rw[hRX]
  exact Yh hrow (by omega)
end
end Co
end Go.Proofs.YtcpnkpogebjieaaGreat
