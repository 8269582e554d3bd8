/- inOrder beside goroutines that only leave: to the sorting. -/
import Derived.Test.YtcpnkpogebjieaaGreatG10Yc
import Derived.Maps.AppendAt
open Go.Value renaming int→Qhp,slice→Qhr
open Nat renaming lt_of_lt_of_le→Qhq,le_refl→Qht,le_trans→Qhu
open Go.World renaming cell?_of_block→Qhs
open List renaming getElem?_eq_getElem→Qhv,getElem?_cons_zero→Qhw,getElem?_cons_succ→Qhx
set_option maxRecDepth 100000
set_option maxHeartbeats 2000000
namespace Go.Proofs.YtcpnkpogebjieaaGreat
namespace Co
open Go.Conc Go.ConcN Go.RowKit Go.Conc.Lib Go.ConcR.Gen
open Go.ConcR (DC0)
set_option linter.unusedSimpArgs false
noncomputable def Qat:Array Oper:=match ioE with
 | .seq (.region _ ops _) _=>ops
 |_=>#[]
noncomputable def ioF:Code:=match ioE with
 | .seq _ e=>e
 |_=>.skip
noncomputable def Ku (T:Array Value):Frame:=(base 113).at ⟨T,[]⟩ [.inRegion Qat [1],.code ioF]
def U4 (X:Nat→Bool)(N1 Ch cap:Nat)(wJ:World)(all:List Value)(cs:List Frame)(g:Goroutine)(w:World):Prop:=
 ∃T v,T.size=16∧T[3]? =some v∧g=G (Frame.enter Tryz.prog 146 #[v] .normal) (Ku T::cs)∧InO X N1 Ch cap wJ all [] v w
section
variable {X:Nat→Bool} {N1 Ch cap:Nat} {wJ:World} {cs:List Frame}
theorem Qd7 {done:List Value}{v:Value}{T:Array Value}(hT:InH Ch v T){w:World}(hF:InO X N1 Ch cap wJ done [] v w):Qt Tryz.prog X Ch (U4 X N1 Ch cap wJ done cs) (G ((base 113).at ⟨T,[]⟩ [.code ioB,.inLoop ioB,.inBlock 0,.code ioE]) cs) w:=by
 obtain⟨v0,v1,v2,v3,v4,v5,v6,v7,v8,v9,v10,v11,v12,v13,v14,v15,rfl⟩:=VU T hT.sz
 obtain⟨_,t3,t5⟩:=hT
 simp only[List.getElem?_toArray,Qhw,Qhx,Option.some.injEq]at t3 t5
 subst t3 t5
 simp only[ioB,ioE,Tryz.f113]
 refine QI (n:=20) ?_
 u_c stepG_seq InO.rely hF
 u_reg InO.rely hF
 refine Goes.stop (fun w1 h1=>?_)
 replace hF:=InO.rely hF h1
 clear h1
 obtain⟨b,s,r,tm,hb,hc⟩:=hF.ch
 obtain rfl:b=#[]:=by rw[←Array.toList_eq_nil_iff];exact hb
 refine .shut rfl (fun d=>Qab (z:=.int .i64 0) (c:=Ch) (w1.at d) rfl rfl (by decide) (by simp[go_sem,rcase]) (by simp[go_sem])) hc (fun d=>?_)
 rw[Qaa rfl]
 replace hF:=InO.rely hF ⟨d,rfl⟩
 clear hc hb
 refine QI (n:=30) ?_
 walk_nrm
 u_op InO.rely hF
 u_c stepG_region_end InO.rely hF
 u_c stepG_seq InO.rely hF
 u_cond false InO.rely hF
 u_exit InO.rely hF
 u_c stepG_seq InO.rely hF
 u_reg InO.rely hF
 u_op InO.rely hF
 u_in InO.rely hF
 refine goes_call rfl rfl (by decide) rfl Tryz.func146 rfl rfl ⟨by u_nil,?_⟩
 rw[←enter_at _ Tryz.func146 rfl]
 simp only[List.map_toArray,List.map_cons,List.map_nil,Act.eval,Array.getD_eq_getD_getElem?,List.getElem?_toArray,Qhx,Qhw,Option.getD_some]
 exact Goes.stop (fun w9 h9=>.stop ⟨_,v3,rfl,rfl,rfl,InO.rely hF h9⟩)
theorem Oy:∀(rest done:List Value),(∀u∈rest,∃i:Int,u=.int .i64 i)→done.length+rest.length<1000000→∀T v,InH Ch v T→∀w,InO X N1 Ch cap wJ done rest v w→
 Qt Tryz.prog X Ch (U4 X N1 Ch cap wJ (done++rest) cs) (G ((base 113).at ⟨T,[]⟩ [.code ioB,.inLoop ioB,.inBlock 0,.code ioE]) cs) w
 | [],done,_,_,T,v,hT,w,hF=>by
   rw[List.append_nil]
   exact Qd7 hT hF
 |x::rest,done,hi,hn,T,v,hT,w,hF=>by
  simp only[List.length_cons]at hn
  refine Qd9 (by omega) (hi x List.mem_cons_self) (fun T v hT w hF=>?_) hT hF
  have:=Oy rest (done++ [x]) (fun u hu=>hi u (List.mem_cons_of_mem _ hu)) (by simp;omega) T v hT w hF
  rwa[List.append_assoc,List.singleton_append]at this
theorem Qd8 {all:List Value}(hi:∀u∈all,∃i:Int,u=.int .i64 i)(hn:all.length<1000000){w:World}(hF:InO X N1 Ch cap wJ [] all (.slice none 0 0) w):
 Qt Tryz.prog X Ch (U4 X N1 Ch cap wJ all cs) (G (Frame.enter Tryz.prog 113 #[.chan (some Ch)] .normal) cs) w:=by
 rw[enter_at _ Tryz.func113 rfl]
 refine QI (n:=30) ?_
 simp only[Tryz.f113]
 walk_nrm
 u_c stepG_seq InO.rely hF
 u_reg InO.rely hF
 u_op InO.rely hF
 u_c stepG_region_end InO.rely hF
 u_c stepG_seq InO.rely hF
 u_reg InO.rely hF
 u_op InO.rely hF
 u_c stepG_region_end InO.rely hF
 u_c stepG_seq InO.rely hF
 u_c stepG_seq InO.rely hF
 u_reg InO.rely hF
 u_op InO.rely hF
 u_c stepG_region_end InO.rely hF
 u_c stepG_block InO.rely hF
 u_c stepG_loop InO.rely hF
 refine Goes.stop (fun w9 h9=>?_)
 exact Oy all [] hi (by simpa using hn) _ (.slice none 0 0) ⟨rfl,rfl,rfl⟩ w9 (InO.rely hF h9)
end
end Co
section
open Go.RowKit
theorem Jx:(Cut.prog.info? 40).map (fun i=>(i.zero,i.size,i.bytes))=some (some (.agg #[.int .i64 0,.int .i64 0]),2,16):=by kernel_rfl
theorem Uc:(Cut.prog.info? 37).map (fun i=>(i.zero,i.size,i.bytes))=some (some (.agg #[.int .i64 0,.string ⟨#[]⟩,.slice none 0 0]),3,48):=by kernel_rfl
def JG (w:World)(B:Nat)(l:List Ob):Prop:=∀i (hi:i<l.length),∃g,l[i].ra=some ⟨g,0,none⟩∧B≤g∧l[i].rcap=l[i].r.length∧Blk w g (l[i].r.map (Qhp .i64)) 3
theorem JG.below {w w':World}{B C:Nat}{l:List Ob}(h:JG w B l)(hb:Below C w w')(hC:w.heap.size≤C):JG w' B l:=fun i hi=>by
 obtain⟨g,h1,h2,h3,h4⟩:=h i hi
 exact⟨g,h1,h2,h3,h4.below hb (Qhq h4.lt hC)⟩
theorem JG.store {w:World}{B:Nat}{l:List Ob}(h:JG w B l)(p:Addr)(v:Value)(hp:p.block<B):JG (w.setCell p v) B l:=fun i hi=>by
 obtain⟨g,h1,h2,h3,h4⟩:=h i hi
 exact⟨g,h1,h2,h3,h4.other p v (by omega)⟩
theorem JG.snoc {w:World}{B:Nat}{l:List Ob}(h:JG w B l)(o:Ob)(g:Nat)(h1:o.ra=some ⟨g,0,none⟩)(h2:B≤g)(h3:o.rcap=o.r.length)(h4:Blk w g (o.r.map (Qhp .i64)) 3):JG w B (l++ [o]):=fun i hi=>by
 by_cases hl:i<l.length
 ·simpa[List.getElem_append_left hl]using h i hl
 ·have e:i=l.length:=by simp at hi;omega
  subst e
  simpa using⟨g,h1,h2,h3,h4⟩
theorem JG.seg {w:World}{B:Nat}{l:List Ob}(h:JG w B l)(i:Nat)(hi:i<l.length):Qk w l[i].ra l[i].r:=by
 obtain⟨g,h1,_,_,h4⟩:=h i hi
 rw[h1]
 exact h4.segI
def Hp.p (h:Hp):List (Int×ByteArray×List Int)×List Int×List (Int×Int)×List (Int×Int):=(h.os.map Ob.p,h.rs,h.ws,h.ds)
structure Pr (w:World) (B:Nat) (h:Hp) (go gr gw gd:Nat):Prop where
 oa:h.oa=some ⟨go,0,none⟩
 ocap:h.ocap=h.os.length
 ra:h.ra=some ⟨gr,0,none⟩
 rcap:h.rcap=h.rs.length
 wa:h.wa=some ⟨gw,0,none⟩
 wcap:h.wcap=h.ws.length
 da:h.da=some ⟨gd,0,none⟩
 dcap:h.dcap=h.ds.length
 le:B≤go
 lt1:go<gr
 lt2:gr<gw
 lt3:gw<gd
 bo:Blk w go (h.os.flatMap Ob.cs) 37
 own:JG w (go+1) h.os
 olt:∀i (hi:i<h.os.length) (g:Nat),h.os[i].ra=some ⟨g,0,none⟩→g<gr
 br:Blk w gr (h.rs.map (Qhp .i64)) 3
 bw:Blk w gw (h.ws.flatMap wc) 40
 bd:Blk w gd (h.ds.flatMap wc) 40
theorem Pr.isIn {w:World}{B go gr gw gd:Nat}{h:Hp}(hh:Pr w B h go gr gw gd):Qg w h:=by
 refine⟨?_,?_,?_,?_⟩
 ·rw[hh.oa];exact hh.bo.segO (fun i hi=>hh.own.seg i hi)
 ·rw[hh.ra];exact hh.br.segI
 ·rw[hh.wa];exact hh.bw.segW
 ·rw[hh.da];exact hh.bd.segW
def inB (n lo hi:Int):Bool:=decide (lo≤n)&&decide (n≤hi)
def Zi (c:UInt8):Bool:=(decide (97≤c.toNat)&&decide (c.toNat≤122))||(decide (48≤c.toNat)&&decide (c.toNat≤57))
def Zp (t:ByteArray):Bool:=decide (1≤t.size)&&decide (t.size≤12)&&t.data.toList.all Zi
def QZ (most:Int)(r:List Int):Bool:=r.all fun z=>inB z (-1) (most-1)
def QS (k:Int)(t:ByteArray)(n:Nat):Bool:=
 if k=1 then Zp t&&decide (n=0)
 else if k=2 then decide (t.size=0)&&decide (n≤6)
 else if k=3 then decide (t.size=0)&&decide (n=2)
 else if k=4 then decide (t.size=0)&&decide (n=0)
 else false
def Qs (most:Int)(o:Int×ByteArray×List Int):Bool:=QZ most o.2.2&&QS o.1 o.2.1 o.2.2.length
def Qp (os:List (Int×ByteArray×List Int))(p:Int×Int):Bool:=
 inB p.1 0 (os.length-1)&&inB p.2 0 (os.length-1)&&decide ((os[p.1.toNat]?.map fun o=>o.1)=some 4)
def okP (x:List (Int×ByteArray×List Int)×List Int×List (Int×Int)×List (Int×Int)):Bool:=
 (decide (x.1.length≤60)&&decide (x.2.1.length≤8)&&decide (x.2.2.1.length+x.2.2.2.length≤20))&&
 (x.1.all (Qs x.1.length)&&(QZ x.1.length x.2.1&&(x.2.2.1.all (Qp x.1)&&x.2.2.2.all (Qp x.1))))
theorem J7 {α:Type}{l:List α}{f:α→Bool}(h:∀i (hi:i<l.length),f l[i]=true):l.all f=true:=by
 rw[List.all_eq_true]
 intro x hx
 obtain⟨i,hi,rfl⟩:=List.getElem_of_mem hx
 exact h i hi
theorem Jy {α:Type}{l:List α}{f:α→Bool}{k:Nat}(hk:k<l.length)(h:f l[k]=false):l.all f=false:=by
 cases hx:l.all f with
 |false=>rfl
 |true=>rw[List.all_eq_true]at hx;rw[hx _ (List.getElem_mem hk)]at h;simp at h
theorem J0 {α:Type}{l:List α}{f:α→Bool}{k:Nat}(h:∀i (hi:i<l.length),i<k→f l[i]=true)(hk:k<l.length)(hf:f l[k]=true):∀i (hi:i<l.length),i<k+1→f l[i]=true:=fun i hi hik=>by
 by_cases e:i=k
 ·subst e;exact hf
 ·exact h i hi (by omega)
theorem Vr {t:ByteArray}(h:t.toList=[]):t.size=0:=by
 rw[ByteArray.toList_eq]at h
 have:=congrArg List.length h
 simpa using this
theorem VE {t:ByteArray}(h:t.size=0):t.toList=[]:=by
 rw[ByteArray.toList_eq]
 exact List.eq_nil_of_length_eq_zero (by simpa using h)
theorem Qx {a b:Bool}(h:a=b):Ending.returned (.bool a)=.returned (.bool b):=by rw[h]
theorem Pv (n m:Nat):((n:Int)==(m:Int))=decide (n=m):=by
 rw[Bool.eq_iff_iff];simp;omega
theorem Yr (n:Nat):((n:Int)==0)=decide (n=0):=Pv n 0
theorem Pw (n:Nat):((n:Int)==2)=decide (n=2):=Pv n 2
theorem QeB (n:Nat):decide ((n:Int)≤6)=decide (n≤6):=by
 rw[Bool.eq_iff_iff];simp;omega
/-Growing rows. -/
theorem UE (w:World)(r:Option Nat):w.grownBy w r:=⟨rfl,rfl,rfl,Qht _,fun _ _ _=>rfl⟩
theorem ZX {a b c:World}{r:Option Nat}(h:a.grownBy b r)(k:b.grownBy c r):a.grownBy c r:=
 ⟨k.os.trans h.os,k.tape.trans h.tape,k.output.trans h.output,Qhu h.size k.size,fun i hi hr=>(k.block i (Qhq hi h.size) hr).trans (h.block i hi hr)⟩
theorem Z8 {w w':World}{B:Nat}(h:Below B w w')(hB:w.heap.size≤B)(r:Option Nat):w.grownBy w' r:=
 ⟨h.os,h.tape,h.output,h.size,fun k hk _=>h.block k (by omega)⟩
theorem QL {w w':World}{B:Nat}{r:Option Nat}(h:w.grownBy w' r)(hB:B≤w.heap.size)(hr:∀k,r=some k→B≤k):Below B w w':=
 (Below.refl B w).grown h hB hr
theorem QdC {a b c:World}{r s:Option Nat}(h:a.grownBy b r)(k:b.grownBy c s)(hs:s=r∨∃g,s=some g∧a.heap.size≤g):a.grownBy c r:=by
 refine⟨k.os.trans h.os,k.tape.trans h.tape,k.output.trans h.output,Qhu h.size k.size,fun i hi hr=>?_⟩
 refine(k.block i (Qhq hi h.size) ?_).trans (h.block i hi hr)
 rcases hs with rfl|⟨g,rfl,hg⟩
 ·exact hr
 ·intro e;simp at e;omega
def Qa (w:World)(base:Nat)(v:Value)(zs:List Int):Prop:=w.ownsRow base 3 1 v zs.length (zs.map (Qhp .i64))
theorem Qa.form {w:World}{base:Nat}{v:Value}{zs:List Int}(h:Qa w base v zs):∃a cap,v=.slice a zs.length cap∧Qk w a zs∧(zs.length≤cap∧cap≤maxLen):=by
 rcases h.2 with⟨h1,h2⟩|⟨g,cap,cur,h1,hg,hh,hn,hc,hs,htake⟩
 ·refine⟨none,0,by rw[h1,h2],fun hm=>by omega,by omega,Nat.zero_le _⟩
 ·refine⟨some ⟨g,0,none⟩,cap,h1,fun hm=>⟨g,0,rfl,lt_of_block hh,fun i hi=>?_⟩,hn,hc⟩
  have h':w.ownsRow base 3 1 (.slice (some ⟨g,0,none⟩) zs.length cap) zs.length (zs.map (Qhp .i64)):=by rw[←h1];exact h
  rw[Nat.zero_add,h'.cellAt i (by omega)]
  simp[List.getD,Qhv hi]
theorem Qa.kept {w w':World}{base:Nat}{v:Value}{zs:List Int}{r:Option Nat}(h:Qa w base v zs)(hg:w.grownBy w' r)(hne:v.ownBlock=none∨v.ownBlock≠r):Qa w' base v zs:=World.ownsRow.kept h hg hne
theorem Qa.below {w w':World}{base B:Nat}{v:Value}{zs:List Int}(h:Qa w base v zs)(hb:Below B w w')(hB:w.heap.size≤B):Qa w' base v zs:=by
 refine World.ownsRow.kept h (Z8 hb hB none) ?_
 cases e:v.ownBlock with
 |none=>exact Or.inl rfl
 |some k=>exact Or.inr (by simp)
theorem Qa.lt {w:World}{base:Nat}{v:Value}{zs:List Int}(h:Qa w base v zs):∀k,v.ownBlock=some k→base≤k∧k<w.heap.size:=World.ownsRow.lt h
theorem Qa.base {w:World}{B C:Nat}{v:Value}{zs:List Int}(h:Qa w B v zs)(hC:C≤B):Qa w C v zs:=by
 refine⟨h.1,?_⟩
 rcases h.2 with h1|⟨g,cap,cur,h1,hg,r⟩
 ·exact Or.inl h1
 ·exact Or.inr ⟨g,cap,cur,h1,Qhu hC hg,r⟩
theorem Qa.ne {w:World}{base:Nat}{v:Value}{zs:List Int}(h:Qa w base v zs){B t:Nat}{cs:List Value}(hb:Blk w B cs t)(ht:t≠3):v.ownBlock≠some B:=by
 intro e
 rcases h.2 with⟨h1,_⟩|⟨g,cap,cur,h1,hg,hh,_⟩
 ·rw[h1]at e;simp[Value.ownBlock]at e
 ·rw[h1]at e
  simp[Value.ownBlock]at e
  subst e
  unfold Blk at hb
  rw[hb]at hh
  simp at hh
  exact ht hh.2
theorem Blk.grown {w w':World}{B t:Nat}{cs:List Value}{r:Option Nat}(h:Blk w B cs t)(hg:w.grownBy w' r)(hr:r≠some B):Blk w' B cs t:=by
 unfold Blk at *
 rw[hg.block B (lt_of_block h) (fun e=>hr e.symm)];exact h
theorem O2 {v0 v v':Value}{a b:Nat}(h:v.ownBlock=v0.ownBlock∨∃g,v.ownBlock=some g∧a≤g)(h':v'.ownBlock=v.ownBlock∨∃g,v'.ownBlock=some g∧b≤g)(hab:a≤b):v'.ownBlock=v0.ownBlock∨∃g,v'.ownBlock=some g∧a≤g:=by
 rcases h' with h'|⟨g,e,hg⟩
 ·rw[h'];exact h
 ·exact Or.inr ⟨g,e,by omega⟩
theorem QB {w:World}{B t:Nat}{h:Hp}(hk:Blk w B [Qhr h.oa h.os.length h.ocap,Qhr h.ra h.rs.length h.rcap,Qhr h.wa h.ws.length h.wcap,Qhr h.da h.ds.length h.dcap] t):
 w.cell? ⟨B,0,none⟩=some (.slice h.oa h.os.length h.ocap)∧w.cell? ⟨B,1,none⟩=some (.slice h.ra h.rs.length h.rcap)∧w.cell? ⟨B,2,none⟩=some (.slice h.wa h.ws.length h.wcap)∧w.cell? ⟨B,3,none⟩=some (.slice h.da h.ds.length h.dcap):=
 ⟨hk.cell 0,hk.cell 1,hk.cell 2,hk.cell 3⟩
def AvI (a:Option Addr)(n:Nat)(r:Option Nat):Prop:=0<n→∀x,a=some x→some x.block≠r
structure Zg (h:Hp) (r:Option Nat):Prop where
 ao:AvI h.oa h.os.length r
 aoo:∀i (hi:i<h.os.length),AvI h.os[i].ra h.os[i].r.length r
 ar:AvI h.ra h.rs.length r
 aw:AvI h.wa h.ws.length r
 ad:AvI h.da h.ds.length r
theorem Qk.grown {w w':World}{a:Option Addr}{zs:List Int}{r:Option Nat}(h:Qk w a zs)(hg:w.grownBy w' r)(hr:AvI a zs.length r):Qk w' a zs:=by
 intro hm
 obtain⟨b,off,h1,h2,h3⟩:=h hm
 exact⟨b,off,h1,Qhq h2 hg.size,fun i hi=>(Qhs (w:=w) (hg.block b h2 (hr hm _ h1))).trans (h3 i hi)⟩
theorem QE.grown {w w':World}{a:Option Addr}{ws:List (Int×Int)}{r:Option Nat}(h:QE w a ws)(hg:w.grownBy w' r)(hr:AvI a ws.length r):QE w' a ws:=by
 intro hm
 obtain⟨b,off,h1,h2,h3⟩:=h hm
 have hb:=hg.block b h2 (hr hm _ h1)
 exact⟨b,off,h1,Qhq h2 hg.size,fun i hi=>⟨(Qhs (w:=w) (a:=⟨b,_,none⟩) hb).trans (h3 i hi).1,(Qhs (w:=w) (a:=⟨b,_,none⟩) hb).trans (h3 i hi).2⟩⟩
theorem ZQ.grown {w w':World}{a:Option Addr}{os:List Ob}{r:Option Nat}(h:ZQ w a os)(hg:w.grownBy w' r)(hr:AvI a os.length r)(hrr:∀i (hi:i<os.length),AvI os[i].ra os[i].r.length r):ZQ w' a os:=by
 refine⟨fun hm=>?_,fun i hi=>(h.2 i hi).grown hg (hrr i hi)⟩
 obtain⟨b,off,h1,h2,h3⟩:=h.1 hm
 have hb:=hg.block b h2 (hr hm _ h1)
 exact⟨b,off,h1,Qhq h2 hg.size,fun i hi=>⟨(Qhs (w:=w) (a:=⟨b,_,none⟩) hb).trans (h3 i hi).1,(Qhs (w:=w) (a:=⟨b,_,none⟩) hb).trans (h3 i hi).2.1,(Qhs (w:=w) (a:=⟨b,_,none⟩) hb).trans (h3 i hi).2.2⟩⟩
theorem Qg.grown {w w':World}{h:Hp}{r:Option Nat}(hh:Qg w h)(hg:w.grownBy w' r)(hr:Zg h r):Qg w' h:=
 ⟨hh.so.grown hg hr.ao hr.aoo,hh.sr.grown hg hr.ar,hh.sw.grown hg hr.aw,hh.sd.grown hg hr.ad⟩
theorem Qk.av {w:World}{a:Option Addr}{zs:List Int}(h:Qk w a zs){g:Nat}(hg:w.heap.size≤g):AvI a zs.length (some g):=fun hm x hx=>by
 obtain⟨b,off,h1,h2,_⟩:=h hm
 rw[h1]at hx
 simp at hx
 subst hx
 intro e;simp at e;omega
theorem Qg.av {w:World}{h:Hp}(hh:Qg w h){g:Nat}(hg:w.heap.size≤g):Zg h (some g):=by
 refine⟨fun hm x hx=>?_,fun i hi=>(hh.so.2 i hi).av hg,hh.sr.av hg,fun hm x hx=>?_,fun hm x hx=>?_⟩
 ·obtain⟨b,off,h1,h2,_⟩:=hh.so.1 hm
  rw[h1]at hx;simp at hx;subst hx
  intro e;simp at e;omega
 ·obtain⟨b,off,h1,h2,_⟩:=hh.sw hm
  rw[h1]at hx;simp at hx;subst hx
  intro e;simp at e;omega
 ·obtain⟨b,off,h1,h2,_⟩:=hh.sd hm
  rw[h1]at hx;simp at hx;subst hx
  intro e;simp at e;omega
theorem AvI.none (a:Option Addr)(n:Nat):AvI a n .none:=fun _ x _ e=>by cases e
theorem Zg.none (h:Hp):Zg h .none:=⟨AvI.none _ _,fun _ _=>AvI.none _ _,AvI.none _ _,AvI.none _ _,AvI.none _ _⟩
/-Plain. -/
def put (l:List Int)(n:Int):List Int:=if n<0∨n∈l then l else l++ [n]
def putAll (l ns:List Int):List Int:=ns.foldl put l
def nextP (os:List (Int×ByteArray×List Int))(ds:List (Int×Int))(at_:Int):List Int:=
 match os[at_.toNat]? with
 |none=>[]
 |some o=>if o.1=3 then o.2.2.drop 1 else if o.1=4 then(ds.filter fun p=>p.1 ==at_).map fun p=>p.2 else o.2.2
def traceF (os:List (Int×ByteArray×List Int))(ds:List (Int×Int)):Nat→Nat→List Int→List Int
 |0,_,l=>l
 |f+1,i,l=>if i<l.length then traceF os ds f (i+1) (putAll l (nextP os ds (l.getD i 0)))else l
def reachP (x:List (Int×ByteArray×List Int)×List Int×List (Int×Int)×List (Int×Int)):List Int:=
 if okP x then traceF x.1 x.2.2.2 61 0 (putAll [] x.2.1)else []
structure Qq (n:Nat) (l:List Int):Prop where
 rng:∀z∈l,0≤z∧z<n
 nd:l.Nodup
theorem Qq.nil (n:Nat):Qq n []:=⟨fun _ h=>by simp at h,List.nodup_nil⟩
theorem Qq.put {n:Nat}{l:List Int}(h:Qq n l){z:Int}(hz:z<n):Qq n (put l z):=by
 unfold Go.Proofs.YtcpnkpogebjieaaGreat.put
 split
 ·exact h
 ·rename_i hn
  refine⟨fun y hy=>?_,?_⟩
  ·rcases List.mem_append.1 hy with hy|hy
   ·exact h.rng y hy
   ·simp at hy;subst hy;omega
  ·rw[List.nodup_append]
   refine⟨h.nd,by simp,fun a ha b hb=>?_⟩
   simp at hb
   subst hb
   intro e
   subst e
   exact hn (Or.inr ha)
theorem Qq.putAll {n:Nat}{l ns:List Int}(h:Qq n l)(hn:∀z∈ns,z<n):Qq n (putAll l ns):=by
 unfold Go.Proofs.YtcpnkpogebjieaaGreat.putAll
 induction ns generalizing l with
 |nil=>exact h
 |cons z ns ih=>exact ih (h.put (hn z (by simp))) (fun y hy=>hn y (by simp[hy]))
theorem Qe7 (n:Nat):∀(l:List Nat),l.Nodup→(∀x∈l,x<n)→l.length≤n:=by
 induction n with
 |zero=>
  intro l _ h
  cases l with
  |nil=>simp
  |cons a l=>exact absurd (h a (by simp)) (by omega)
 |succ n ih=>
  intro l hnd h
  by_cases hm:n∈l
  ·have h1:=ih (l.erase n) (hnd.erase n) (fun x hx=>by
    have:=hnd.mem_erase_iff.1 hx
    have:=h x this.2
    omega)
   rw[List.length_erase_of_mem hm]at h1
   omega
  ·have h1:=ih l hnd (fun x hx=>by
    have:=h x hx
    have:x≠n:=fun e=>hm (e▸hx)
    omega)
   omega
theorem Qq.len {n:Nat}{l:List Int}(h:Qq n l):l.length≤n:=by
 have hnd:(l.map Int.toNat).Nodup:=by
  rw[List.Nodup,List.pairwise_map]
  refine List.Pairwise.imp_of_mem ?_ h.nd
  intro a b ha hb hab
  have h1:=h.rng a ha
  have h2:=h.rng b hb
  intro e
  apply hab
  omega
 have:=Qe7 n _ hnd (fun x hx=>by
  obtain⟨z,hz,rfl⟩:=List.mem_map.1 hx
  have:=h.rng z hz
  omega)
 simpa using this
theorem QfA (l:List Int)(z:Int):l.length≤(put l z).length:=by
 unfold put;split<;>simp
theorem Qfy (l ns:List Int):l.length≤(putAll l ns).length:=by
 unfold putAll
 induction ns generalizing l with
 |nil=>exact Qht _
 |cons z ns ih=>exact Qhu (QfA l z) (ih _)
theorem KT (l ns:List Int):∃t,putAll l ns=l++t:=by
 unfold putAll
 induction ns generalizing l with
 |nil=>exact⟨[],by simp⟩
 |cons z ns ih=>
  obtain⟨t,ht⟩:=ih (put l z)
  have hp:∃s,put l z=l++s:=by
   unfold put
   split
   ·exact⟨[],by simp⟩
   ·exact⟨[z],rfl⟩
  obtain⟨s,hs⟩:=hp
  refine⟨s++t,?_⟩
  rw[List.foldl_cons,ht,hs,List.append_assoc]
theorem Qfz (l ns:List Int)(k:Nat)(hk:k≤l.length):(putAll l ns).take k=l.take k:=by
 obtain⟨t,ht⟩:=KT l ns
 rw[ht,List.take_append_of_le_length hk]
theorem KU (l ns:List Int)(k:Nat)(hk:k<ns.length):putAll l (ns.take (k+1))=put (putAll l (ns.take k)) ns[k]:=by
 unfold putAll
 rw[List.take_succ_eq_append_getElem hk,List.foldl_append];rfl
def AtP (zs:List Int)(x r:Int):Prop:=(r= -1∧x∉zs)∨∃k:Nat,r=k∧zs[k]? =some x∧∀j,j<k→zs[j]? ≠some x
theorem AtP.mem {zs:List Int}{x r:Int}(h:AtP zs x r):0≤r↔x∈zs:=by
 rcases h with⟨rfl,hn⟩|⟨k,rfl,hk,_⟩
 ·simp[hn]
 ·simp only[Int.natCast_nonneg,true_iff]
  exact List.mem_of_getElem? hk
theorem Vy {a b:Int}(h:a=b):Ending.returned (.int .i64 a)=.returned (.int .i64 b):=by rw[h]
theorem OD (a:Option Addr)(n cap:Nat)(zs:List Int)(x:Int)(w:World)(hl:zs.length=n)(hn:n≤maxLen)(h:Qk w a zs):
 Calls Cut.prog 36 #[.slice a n cap,.int .i64 x] w fun e w'=>∃r:Int,e=.returned (.int .i64 r)∧w'=w∧AtP zs x r:=by
 unfold maxLen at hn
 go_enter (Cut.func_of Tryz.func36 rfl),Tryz.ntmps36
 go_wp2
 go_loop [5] (fun i=>∃j:Nat,j≤n∧i=.int .i64 j∧∀y,y<j→zs[y]? ≠some x) (fun i=>n-(intOf i).toNat)
 case atStart=>exact⟨0,Nat.zero_le _,rfl,fun y hy=>by omega⟩
 case round=>
  obtain⟨j,hj,rfl,hall⟩:=hrel
  have HA:Hid (∀y,y<j→zs[y]? ≠some x):=hall
  clear hall
  by_cases hlt:j<n
  ·have hjl:j<zs.length:=by omega
   obtain⟨b,off,rfl,hbw,c1⟩:=h.get hjl
   by_cases he:zs[j]=x
   ·have hd:(zs[j]==x)=true:=by simpa using he
    have HK:Hid (zs[j]? =some x):=by show _=_;rw[Qhv hjl,he]
    clear he
    go_wp2
    go_ret
    exact⟨_,rfl,rfl,Or.inr ⟨j,rfl,HK.out,HA.out⟩⟩
   ·have hd:(zs[j]==x)=false:=by simpa using he
    have HK:Hid (∀y,y<j+1→zs[y]? ≠some x):=fun y hy=>by
     by_cases e:y=j
     ·subst e;rw[Qhv hjl];simpa using he
     ·exact HA.out y (by omega)
    clear he
    go_wp2
    go_round
    case rel=>exact⟨j+1,by omega,by go_num,HK.out⟩
    case measure=>simp[intOf];omega
  ·go_wp2
   go_ret
   refine⟨_,rfl,rfl,Or.inl ⟨rfl,fun hm=>?_⟩⟩
   obtain⟨y,hy,e⟩:=List.getElem_of_mem hm
   exact HA.out y (by omega) (by rw[Qhv hy,e])
theorem Kx (base:Nat)(v:Value)(zs:List Int)(x:Int)(w:World)(hv:Qa w base v zs)(hb:base≤w.heap.size)(hl:zs.length≤1000000):
 Calls Cut.prog 85 #[v,.int .i64 x] w fun e w'=>∃v',e=.returned v'∧Qa w' base v' (put zs x)∧w.grownBy w' v.ownBlock∧(v'.ownBlock=v.ownBlock∨∃g,v'.ownBlock=some g∧w.heap.size≤g):=by
 obtain⟨a,cap,rfl,hs,hc1,hc2⟩:=hv.form
 by_cases hx:x<0
 ·have E:Hid (put zs x=zs):=by simp[Hid,put,hx]
  go_enter (Cut.func_of Tryz.func85 rfl),Tryz.ntmps85
  go_wp2
  go_ret
  exact⟨_,rfl,by rw[E.out];exact hv,UE _ _,Or.inl rfl⟩
 ·obtain⟨i0,hi,hz0,hz1,hz2⟩:=info_parts Ja
  have hd:decide (x<0)=false:=by simpa using hx
  go_enter (Cut.func_of Tryz.func85 rfl),Tryz.ntmps85
  go_wp2_with fail
  refine(OD a zs.length cap zs x _ rfl (by unfold maxLen;omega) hs).mono ?_
  rintro e w1 ⟨r,rfl,rfl,hr⟩
  have hm:=hr.mem
  clear hr
  by_cases hr0:0≤r
  ·have E:Hid (put zs x=zs):=by simp[Hid,put,hm.1 hr0]
   clear hm
   go_wp2
   go_ret
   exact⟨_,rfl,by rw[E.out];exact hv,UE _ _,Or.inl rfl⟩
  ·have hx':x∉zs:=fun h=>hr0 (hm.2 h)
   have E:Hid (put zs x=zs++ [x]):=by simp[Hid,put,hx,hx']
   have hd2:decide (0≤r)=false:=by simpa using hr0
   clear hm hx'
   have hvA:(w1.alloc (Obj.cells #[Qhp .i64 x] 3)).ownsRow base 3 1 (.slice a zs.length cap) zs.length (zs.map (Qhp .i64)):=World.ownsRow.alloc hv _
   go_wp2_with (at_builtin;refine wpList_append_own_at _ rfl _ _ 24 rfl base 3 i0 (.int .i64 0) 1 8 ((Cut.under_eq 24).trans Tryz.underlying24) hi hz0 hz1 hz2 rfl (by decide) _ _ _ rfl hvA ⟨w1.heap.size,0,none⟩ 1 1 [.int .i64 x] rfl rfl (cell_one_new _ _ _) ?c2 ?c3 ?c4 ?c5 ?_)
   case c2=>intro u hu;simp at hu;subst hu;rfl
   case c3=>unfold maxLen;omega
   case c4=>omega
   case c5=>simp;omega
   intro v' w2 hown hgr _ hat
   have hg0:w1.grownBy w2 (Qhr a zs.length cap).ownBlock:=ZX (Z8 ((Below.refl w1.heap.size w1).alloc (Qht _) _) (Qht _) _) hgr
   have hat':v'.ownBlock=(Qhr a zs.length cap).ownBlock∨∃g,v'.ownBlock=some g∧w1.heap.size≤g:=by
    rcases hat with h|h
    ·exact Or.inl h
    ·exact Or.inr ⟨_,h,by simp⟩
   have hown':Hid (Qa w2 base v' (zs++ [x])):=by
    show Qa _ _ _ _
    unfold Qa
    simpa using hown
   clear hown hgr hat
   go_wp2
   go_ret
   exact⟨_,rfl,by rw[E.out];exact hown'.out,hg0,hat'⟩
theorem QX (w:World)(g j:Nat)(v:Value):w.grownBy (w.setCell ⟨g,j,none⟩ v) (some g):=⟨rfl,rfl,rfl,by simp[World.setCell],fun k _ hk=>Below.heap_setCell _ _ _ _ (fun e=>hk (by rw[e]))⟩
def dig (d:Int):ByteArray:=ByteArray.empty.push (UInt8.ofNat d.toNat)
theorem Qb7 (d:Int)(w:World):(convert 22 9 (.slice (some ⟨w.heap.size,0,none⟩) 1 1)).run Cut.prog (w.alloc (Obj.cells #[Qhp .u8 d] 5))=.ok (.string (dig d)) (w.alloc (Obj.cells #[Qhp .u8 d] 5)):=by
 rw[run_convert_bytes_string _ _ _ 5 _ _ _ ((Cut.under_eq 22).trans Tryz.underlying22) ((Cut.under_eq 5).trans Tryz.underlying5) ((Cut.under_eq 9).trans Tryz.underlying9)]
 rw[run_bytesToString _ _ _ _ [d] ?_]
 ·rfl
 ·simp[loadCells,loadCellsFrom,go_sem]
end
end Go.Proofs.YtcpnkpogebjieaaGreat
