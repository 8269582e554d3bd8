/- Goroutine 0 in company: dueOf's loop, whole, into Wait and out of it. -/
import Derived.Test.YtcpnkpogebjieaaGreatG21Zn
import Derived.Test.YtcpnkpogebjieaaGreatG24Zr
import Derived.Test.YtcpnkpogebjieaaGreatG11Mk1
import Derived.Test.YtcpnkpogebjieaaGreatG20Yf
import Derived.Shelf.Sort.Plain
import Derived.Test.YtcpnkpogebjieaaGreatG07Zs
import Derived.Shelf.Small.Bits
import Derived.WalkKit
import Derived.Sort.OwnSortedInts
import Derived.Test.YtcpnkpogebjieaaGreatG10Yc
open List renaming getElem?_toArray→Qhp,getElem?_cons_zero→Qhq,getElem?_cons_succ→Qhr
set_option maxRecDepth 100000
set_option maxHeartbeats 2000000
namespace Go.Proofs.YtcpnkpogebjieaaGreat
namespace Co
open Go.Conc Go.ConcN Go.RowKit Go.Conc.Lib Go.ConcR.Gen Go.ConcN.Gen
open Go.ConcR (KK wgBlock WgAt stA smA rd wr mk Payload Aside2 DC0 ofEvent_cell)
set_option linter.unusedSimpArgs false
/-! ### a weaker stop-/
theorem Ot {P:Program}{main:Bool}{R:World→World→Prop}{D:World→World→Array Event→Prop}{Stop Stop':Goroutine→World→Prop}(h:∀g w,Stop g w→Stop' g w):
 ∀ {n:Nat} {g:Goroutine} {w:World},Goes P main R D Stop n g w→Goes P main R D Stop' n g w
 |0,g,w,hg=>fun w1 h1=>h g w1 (hg w1 h1)
 |n+1,g,w,hg=>by
  rcases hg with hg|⟨hs,hg⟩
  ·exact .inl fun w1 h1=>h g w1 (hg w1 h1)
  ·refine .inr ⟨hs,fun w1 h1=>?_⟩
   obtain⟨g',w',es,hgo,hd,hn⟩:=goes_elim (hg w1 h1)
   rw[hgo]
   exact⟨hd,Ot h hn⟩
section
variable {P:Program} {ty:TypeId} {Wg:Nat} {A A' B B':Goroutine→World→Prop}
theorem Sil.weak {X Y:Goroutine→World→Prop}(h:∀g w,X g w→Y g w){g:Goroutine}{w:World}(hs:Sil P ty Wg X g w):Sil P ty Wg Y g w:=let⟨n,hn⟩:=hs;⟨n,Ot h hn⟩
theorem ZJ.weak {m:Mark}{X Y:Goroutine→World→Prop}(h:∀g w,X g w→Y g w){g:Goroutine}{w:World}(hs:ZJ P m X g w):ZJ P m Y g w:=let⟨h1,g',h2,h3⟩:=hs;⟨h1,g',h2,h g' w h3⟩
theorem Us.weak (hB:∀g w,B g w→B' g w){g:Goroutine}{w:World}(h:Us P ty Wg B g w):Us P ty Wg B' g w:=Sil.weak (fun _ _=>ZJ.weak fun _ _=>Sil.weak fun _ _=>ZJ.weak fun _ _=>Sil.weak hB) h
theorem YU.weak (hB:∀g w,B g w→B' g w){g:Goroutine}{w:World}(h:YU P ty Wg B g w):YU P ty Wg B' g w:=⟨h.1,fun hw=>let⟨g',h1,h2⟩:=h.2 hw;⟨g',h1,h2.weak hB⟩⟩
theorem Yl.weak (hB:∀g w,B g w→B' g w){g:Goroutine}{w:World}(h:Yl P ty Wg B g w):Yl P ty Wg B' g w:=
 ⟨h.1,h.2.1,h.2.2.1,fun hw=>let⟨g',h1,h2⟩:=h.2.2.2 hw;⟨g',h1,Sil.weak (fun _ _=>YU.weak hB) h2⟩⟩
theorem YT.weak (hA:∀g w,A g w→A' g w)(hB:∀g w,B g w→B' g w){vs:Nat}{g:Goroutine}{w:World}(h:YT P ty Wg A B vs g w):YT P ty Wg A' B' vs g w:=
 ⟨h.1,fun v hv hw=>⟨fun e=>let⟨g',h1,h2⟩:=(h.2 v hv hw).1 e;⟨g',h1,Sil.weak (fun _ _=>ZJ.weak fun _ _=>Sil.weak fun _ _=>Yl.weak hB) h2⟩,fun e=>let⟨g',h1,h2⟩:=(h.2 v hv hw).2 e;⟨g',h1,Sil.weak hA h2⟩⟩⟩
theorem JW.weak (hA:∀g w,A g w→A' g w)(hB:∀g w,B g w→B' g w){g:Goroutine}{w:World}(h:JW P ty Wg A B g w):JW P ty Wg A' B' g w:=
 ⟨h.1,fun v hv hw=>let⟨g',h1,h2,h3⟩:=h.2 v hv hw;⟨g',h1,fun e=>(h2 e).weak hB,fun e=>Sil.weak (fun _ _=>YT.weak hA hB) (h3 e)⟩⟩
end
noncomputable def Qa4:Array Oper:=match J2 with
 | .seq (.region _ ops _) _=>ops
 |_=>#[]
noncomputable def UA:Code:=match J2 with
 | .seq _ e=>e
 |_=>.skip
noncomputable def Y9 (T:Array Value)(K1:List Item):Frame:=(base 81).at ⟨T,[]⟩ (.inRegion Qa4 [0]:: .code UA::K1)
structure DW (bh bt:Nat) (T:Array Value):Prop where
 sz:T.size=40
 t1:T[1]? =some (.pointer (some ⟨bh,0,none⟩))
 t5:T[5]? =some (.pointer (some ⟨bt,0,none⟩))
def YY (Wg bh bt:Nat)(K1:List Item)(cs:List Frame)(g:Goroutine)(w:World):Prop:=∃T,DW bh bt T∧UZ Tryz.link Wg (Y9 T K1) cs g w
def VO (Wg bh bt:Nat)(K1:List Item)(cs:List Frame)(g:Goroutine)(w:World):Prop:=∃T,DW bh bt T∧VL Tryz.link.tWg Wg (Y9 T K1) cs g w
section
variable [Payload] {S:Ph} {w0:World} {bh bw bt:Nat} {wa:Option Addr} {wcap:Nat} {ws:List (Int×Int)} {gW:Nat} {wh:List Int} {xa:Option Addr} {xcap:Nat} {X:List Int} {oa:Option Addr} {ocap:Nat} {ks:List Int}
omit [Payload]in
theorem Qc1 (hP:S.P=Tryz.prog)(hty:S.ty=Tryz.link.tWg){K1:List Item}{cs:List Frame}(g:Goroutine)(w:World)(h:YY S.Wg bh bt K1 cs g w):Sil S.P S.ty S.Wg (JW S.P S.ty S.Wg (YY S.Wg bh bt K1 cs) (VO S.Wg bh bt K1 cs)) g w:=by
 obtain⟨T,hT,ha⟩:=h
 rw[hP,hty]
 exact Sil.weak (fun _ _=>JW.weak (fun _ _ h=>⟨T,hT,h⟩) (fun _ _ h=>⟨T,hT,h⟩)) (Qg6 Tryz.wgLib g w ha)
theorem Qdd (hP:S.P=Tryz.prog)(hty:S.ty=Tryz.link.tWg){K1:List Item}{cs:List Frame}{T:Array Value}(hT:DH S.Wg bh bw bt xa X.length xcap X.length T){own:List Nat}{w:World}(hF:CF S w0 own w):
 Ym S (YY S.Wg bh bt K1 cs) 1 0 own [] 0 0 (G ((base 81).at ⟨T,[]⟩ (.code Z6:: .inLoop Z6:: .inBlock 0:: .code J2::K1)) cs) w:=by
 obtain⟨v0,v1,v2,v3,v4,v5,v6,v7,v8,v9,v10,v11,v12,v13,v14,v15,v16,v17,v18,v19,v20,v21,v22,v23,v24,v25,v26,v27,v28,v29,v30,v31,v32,v33,v34,v35,v36,v37,v38,v39,rfl⟩:=Ut T hT.sz
 obtain⟨_,t1,t4,t5,t6,t20,t21,t22⟩:=hT
 simp only[Qhp,Qhq,Qhr,Option.some.injEq]at t1 t4 t5 t6 t20 t21 t22
 subst t1 t4 t5 t6 t20 t21 t22
 refine⟨rfl,.inl ?_⟩
 rw[hP]
 simp only[Z6,J2,Tryz.f81]
 rw[stepG_seq]
 simp only[goes_go]
 refine⟨own,Zc.refl own w,by simp,?_⟩
 rw[ZW,hP]
 refine⟨50,?_⟩
 u_reg CF.rely hF
 u_op CF.rely hF
 u_c stepG_region_end CF.rely hF
 u_c stepG_seq CF.rely hF
 u_cond false CF.rely hF
 u_exit CF.rely hF
 u_c stepG_seq CF.rely hF
 u_reg CF.rely hF
 refine Goes.stop (fun w1 hw1=>?_)
 replace hF:=CF.rely hF hw1
 clear hw1
 refine⟨rfl,.inl ?_⟩
 rw[hP]
 refine goes_call rfl rfl (by decide) rfl Tryz.func112 rfl rfl ⟨own,Zc.refl _ _,by simp,rfl,rfl,rfl,?_⟩
 rw[←enter_at _ Tryz.func112 rfl]
 simp only[List.map_toArray,List.map_cons,List.map_nil,Act.eval,Array.getD_eq_getD_getElem?,Qhp,Qhr,Qhq,Option.getD_some]
 have hW:=Qg7 (P:=Tryz.prog) (L:=Tryz.link) (Wg:=S.Wg) Tryz.wgLib (c:=Y9 #[v0,.pointer (some ⟨bh,0,none⟩),v2,v3,.pointer (some ⟨bw,0,none⟩),.pointer (some ⟨bt,0,none⟩),.pointer (some ⟨S.Wg,0,none⟩),v7,v8,v9,v10,v11,v12,v13,v14,v15,v16,v17,v18,v19,.slice xa X.length xcap,.int .i64 X.length,.int .i64 X.length,.bool false,v24,v25,v26,v27,v28,v29,v30,v31,v32,v33,v34,v35,v36,v37,v38,v39] K1) (cs:=cs) w1 (hty▸hF.live)
 rw[hP,hty]
 exact Sil.weak (fun _ _=>ZJ.weak fun _ _=>Sil.weak fun _ _ h=>⟨_,⟨rfl,rfl,rfl⟩,h⟩) hW
end
end Co
namespace Co
open Go.Conc Go.ConcN Go.RowKit Go.Conc.Lib Go.ConcR.Gen
open Go.ConcR (DC0 WgAt)
set_option linter.unusedSimpArgs false
structure JF (X:Nat→Bool) (wJ:World) (bt Ch cap:Nat) (buf:Array Value) (cl:Bool) (w:World):Prop where
 low:∀b,b<wJ.heap.size→b≠Ch→w.heap[b]? =wJ.heap[b]?
 sz:w.heap.size=wJ.heap.size
 ch:∃s r tm,w.heap[Ch]? =some (.chan cap buf cl s r tm)
 tb:w.cell? ⟨bt,0,none⟩=some (.chan (some Ch))
 xb:X bt=false
 bl:bt<wJ.heap.size
 oo:OO w wJ
theorem JF.rely {X:Nat→Bool}{wJ:World}{bt Ch cap:Nat}{buf:Array Value}{cl:Bool}{w w1:World}(h:JF X wJ bt Ch cap buf cl w)(r:AtRel w w1):JF X wJ bt Ch cap buf cl w1:=by
 obtain⟨d,rfl⟩:=r
 exact⟨h.low,h.sz,h.ch,h.tb,h.xb,h.bl,h.oo⟩
noncomputable def Ow:Array Oper:=match UA with
 | .seq _ (.seq (.region _ ops _) _)=>ops
 |_=>#[]
noncomputable def P3:Code:=match UA with
 | .seq _ (.seq _ e)=>e
 |_=>.skip
noncomputable def Vg (T:Array Value):Frame:=(base 81).at ⟨T,[]⟩ [.inRegion Ow [1,2],.code P3]
def Qbt (X:Nat→Bool)(wJ:World)(Ch cap:Nat)(all:List Value)(cs:List Frame)(g:Goroutine)(w:World):Prop:=
 ∃T,T.size=40∧U4 X wJ.heap.size Ch cap wJ all (Vg T::cs) g w
theorem Pb {P:Program}{X:Nat→Bool}{Ch:Nat}{Fin Fin':Goroutine→World→Prop}{g:Goroutine}{w:World}(h:Qt P X Ch Fin g w)(k:∀g w,Fin g w→Qt P X Ch Fin' g w):Qt P X Ch Fin' g w:=by
 induction h with
 |stop h=>exact k _ _ h
 |step hr h1 _ ih=>exact .step hr h1 ih
 |buf hr h1 hc hb _ ih=>exact .buf hr h1 hc hb ih
 |shut hr h1 hc _ ih=>exact .shut hr h1 hc ih
theorem Qbc {P:Program}{X:Nat→Bool}{Ch:Nat}{Fin Fin':Goroutine→World→Prop}{g:Goroutine}{w:World}(h:Qt P X Ch Fin g w)(k:∀g w,Fin g w→Fin' g w):Qt P X Ch Fin' g w:=Pb h fun g w hf=>.stop (k g w hf)
section
variable {X:Nat→Bool} {wJ:World} {bh bt Ch cap:Nat} {buf:Array Value} {cs:List Frame}
theorem Qdj {T:Array Value}(hT:DW bh bt T)(hF:JF X wJ bt Ch cap buf false wJ)(hcl:Ch<wJ.heap.size)(hxs:∀b,wJ.heap.size≤b→X b=false)(hi:∀u∈buf.toList,∃i:Int,u=.int .i64 i)(hn:buf.toList.length<1000000)(hbc:bt≠Ch):
 Qt Tryz.prog X Ch (Qbt X wJ Ch cap buf.toList cs) (G ((Y9 T []).finish (.tuple #[])) cs) wJ:=by
 obtain⟨v0,v1,v2,v3,v4,v5,v6,v7,v8,v9,v10,v11,v12,v13,v14,v15,v16,v17,v18,v19,v20,v21,v22,v23,v24,v25,v26,v27,v28,v29,v30,v31,v32,v33,v34,v35,v36,v37,v38,v39,rfl⟩:=Ut T hT.sz
 obtain⟨_,t1,t5⟩:=hT
 simp only[Qhp,Qhq,Qhr,Option.some.injEq]at t1 t5
 subst t1 t5
 rw[Y9,Frame.finish_at]
 simp only[Qa4,UA,J2,Tryz.f81,Qhp,Qhr,Qhq,Option.bind_some]
 refine QI (n:=30) ?_
 walk_nrm
 u_c stepG_region_end JF.rely hF
 u_c stepG_seq JF.rely hF
 u_reg JF.rely hF
 refine Goes.stop (fun w1 h1=>?_)
 replace hF:=JF.rely hF h1
 clear h1
 refine ZL rfl (fun w2 h2=>?_)
 have hz:=ZR h2
 replace hF:=JF.rely hF h2
 clear h2
 refine goes_oper_k rfl rfl (by decide) (fun K hK=>?_)
 have e0:=hF.tb
 go_simp
 refine hK _ _ ⟨⟨hz,fun B hB e he=>?_⟩,?_⟩
 ·have hm:=mem_listed he
  simp[go_sem,e0]at hm
  subst hm
  exact⟨hF.xb,by show bt<B;have:=hF.sz;have:=hF.bl;omega⟩
 clear hK K hz e0
 refine ZL rfl (fun w3 h3=>?_)
 have hz:=ZR h3
 replace hF:=JF.rely hF h3
 clear h3
 obtain⟨s,r,tm,hc⟩:=hF.ch
 have hcr:=fun ats ty=>run_close_open (P:=Tryz.prog) (w:=w3) ats ty hc
 have hce:=fun ats ty es=>events_close_open (P:=Tryz.prog) (w:=w3) (es:=es) ats ty hc
 refine goes_oper_k rfl rfl (by decide) (fun K hK=>?_)
 go_simp
 refine hK _ _ ⟨⟨by simp;omega,fun B hB e he=>?_⟩,?_⟩
 ·have hm:=mem_listed he
  simp[go_sem,hce]at hm
  have hB':w3.heap.size≤B:=by simpa using hB
  have:=hF.sz
  rcases hm with rfl|rfl<;>exact(show Ch<B by omega)
 clear hK K hz hcr hce
 obtain⟨w4,hw4⟩:∃w4:World,w4={heap:=w3.heap.setIfInBounds Ch (Obj.chan cap buf true s r tm),tape:=w3.tape,drawn:=w3.drawn,os:=w3.os,output:=w3.output}:=⟨_,rfl⟩
 rw[←hw4]
 have hn4:∀k,k≠Ch→w4.heap[k]? =w3.heap[k]? :=fun k hk=>by rw[hw4];exact Array.getElem?_setIfInBounds_ne (Ne.symm hk)
 have hF4:JF X wJ bt Ch cap buf true w4:=
  ⟨fun b h1 h2=>(hn4 b h2).trans (hF.low b h1 h2),by rw[hw4];simpa using hF.sz,⟨s,r,tm,by rw[hw4];exact Array.getElem?_setIfInBounds_self_of_lt (Array.getElem?_eq_some_iff.1 hc).1⟩,(cell_of_block (hn4 bt hbc) 0).trans hF.tb,hF.xb,hF.bl,by rw[hw4];exact hF.oo⟩
 clear hF hw4 hn4 hc
 refine QI (n:=30) ?_
 try walk_nrm
 u_c stepG_region_end JF.rely hF4
 u_c stepG_seq JF.rely hF4
 u_reg JF.rely hF4
 refine Goes.stop (fun w5 h5=>?_)
 replace hF4:=JF.rely hF4 h5
 clear h5
 refine ZL rfl (fun w6 h6=>?_)
 have hz:=ZR h6
 replace hF4:=JF.rely hF4 h6
 clear h6
 refine goes_oper_k rfl rfl (by decide) (fun K hK=>?_)
 have e0:=hF4.tb
 go_simp
 refine hK _ _ ⟨⟨hz,fun B hB e he=>?_⟩,?_⟩
 ·have hm:=mem_listed he
  simp[go_sem,e0]at hm
  subst hm
  exact⟨hF4.xb,by show bt<B;have:=hF4.sz;have:=hF4.bl;omega⟩
 clear hK K hz e0
 refine QI (n:=5) ?_
 u_in JF.rely hF4
 refine goes_call rfl rfl (by decide) rfl Tryz.func113 rfl rfl ⟨by u_nil,?_⟩
 rw[←enter_at _ Tryz.func113 rfl]
 simp only[List.map_toArray,List.map_cons,List.map_nil,Act.eval,Array.getD_eq_getD_getElem?,Qhp,Qhr,Qhq,Option.getD_some]
 refine Goes.stop (fun w7 h7=>?_)
 replace hF4:=JF.rely hF4 h7
 clear h7
 have hio:InO X wJ.heap.size Ch cap wJ [] buf.toList (.slice none 0 0) w7:=by
  obtain⟨s',r',tm',hc'⟩:=hF4.ch
  exact⟨hF4.low,Nat.le_of_eq hF4.sz.symm,World.ownsRow_nil _ _ _ _,⟨buf,s',r',tm',rfl,hc'⟩,hcl,hxs,hF4.oo⟩
 have hio2:=Qd8 (cs:=Vg #[v0,.pointer (some ⟨bh,0,none⟩),v2,v3,v4,.pointer (some ⟨bt,0,none⟩),v6,v7,v8,v9,v10,v11,v12,v13,v14,v15,v16,v17,v18,v19,v20,v21,v22,v23,v24,v25,v26,v27,v28,v29,v30,v31,v32,v33,v34,v35,.tuple #[],.chan (some Ch),.chan (some Ch),v39]::cs) hi hn hio
 refine Qbc hio2 fun g w hg=>⟨_,rfl,hg⟩
end
end Co
end Go.Proofs.YtcpnkpogebjieaaGreat
namespace Go.Proofs.Cut
open Go.Shelf
def ren189:Go.Shelf.Ren:=⟨fun|189=>146|125=>155|257=>154|128=>167|129=>168|294=>158|295=>159|296=>160|297=>161|298=>162|299=>163|216=>164|300=>165|301=>166|328=>169|329=>170|330=>171|331=>172|332=>173|215=>174|343=>175|n=>n,fun|28=>24|3=>3|46=>165|0=>0|51=>143|53=>140|4=>4|183=>193|182=>192|131=>197|5=>5|9=>9|218=>201|222=>204|228=>206|229=>207|n=>n,fun n=>n⟩
theorem lays189:Lays.n189 Cut.prog ren189 where
 mixed:=by kernel_rfl
 f125:=(Cut.func_of Tryz.func155 rfl).trans (congrArg some (by kernel_rfl))
 f128:=(Cut.func_of Tryz.func167 rfl).trans (congrArg some (by kernel_rfl))
 f129:=(Cut.func_of Tryz.func168 rfl).trans (congrArg some (by kernel_rfl))
 f189:=(Cut.func_of Tryz.func146 rfl).trans (congrArg some (by kernel_rfl))
 f215:=(Cut.func_of Tryz.func174 rfl).trans (congrArg some (by kernel_rfl))
 f216:=(Cut.func_of Tryz.func164 rfl).trans (congrArg some (by kernel_rfl))
 f257:=(Cut.func_of Tryz.func154 rfl).trans (congrArg some (by kernel_rfl))
 f294:=(Cut.func_of Tryz.func158 rfl).trans (congrArg some (by kernel_rfl))
 f295:=(Cut.func_of Tryz.func159 rfl).trans (congrArg some (by kernel_rfl))
 f296:=(Cut.func_of Tryz.func160 rfl).trans (congrArg some (by kernel_rfl))
 f297:=(Cut.func_of Tryz.func161 rfl).trans (congrArg some (by kernel_rfl))
 f298:=(Cut.func_of Tryz.func162 rfl).trans (congrArg some (by kernel_rfl))
 f299:=(Cut.func_of Tryz.func163 rfl).trans (congrArg some (by kernel_rfl))
 f300:=(Cut.func_of Tryz.func165 rfl).trans (congrArg some (by kernel_rfl))
 f301:=(Cut.func_of Tryz.func166 rfl).trans (congrArg some (by kernel_rfl))
 f328:=(Cut.func_of Tryz.func169 rfl).trans (congrArg some (by kernel_rfl))
 f329:=(Cut.func_of Tryz.func170 rfl).trans (congrArg some (by kernel_rfl))
 f330:=(Cut.func_of Tryz.func171 rfl).trans (congrArg some (by kernel_rfl))
 f331:=(Cut.func_of Tryz.func172 rfl).trans (congrArg some (by kernel_rfl))
 f332:=(Cut.func_of Tryz.func173 rfl).trans (congrArg some (by kernel_rfl))
 f343:=(Cut.func_of Tryz.func175 rfl).trans (congrArg some (by kernel_rfl))
 t0:=(Cut.under_eq 0).trans Tryz.underlying0
 a0:=fun w=>(Cut.run_agg 0 w).trans (Tryz.isAgg0 w)
 z0:=fun w=>(Cut.run_size 0 w).trans (Tryz.sizeOf0 w)
 v0:=fun w=>(Cut.run_zero 0 w).trans (Tryz.zeroValue0 w)
 t3:=(Cut.under_eq 3).trans Tryz.underlying3
 a3:=fun w=>(Cut.run_agg 3 w).trans (Tryz.isAgg3 w)
 z3:=fun w=>(Cut.run_size 3 w).trans (Tryz.sizeOf3 w)
 v3:=fun w=>(Cut.run_zero 3 w).trans (Tryz.zeroValue3 w)
 t4:=(Cut.under_eq 4).trans Tryz.underlying4
 a4:=fun w=>(Cut.run_agg 4 w).trans (Tryz.isAgg4 w)
 z4:=fun w=>(Cut.run_size 4 w).trans (Tryz.sizeOf4 w)
 v4:=fun w=>(Cut.run_zero 4 w).trans (Tryz.zeroValue4 w)
 t5:=(Cut.under_eq 5).trans Tryz.underlying5
 a5:=fun w=>(Cut.run_agg 5 w).trans (Tryz.isAgg5 w)
 z5:=fun w=>(Cut.run_size 5 w).trans (Tryz.sizeOf5 w)
 v5:=fun w=>(Cut.run_zero 5 w).trans (Tryz.zeroValue5 w)
 t9:=(Cut.under_eq 9).trans Tryz.underlying9
 a9:=fun w=>(Cut.run_agg 9 w).trans (Tryz.isAgg9 w)
 z9:=fun w=>(Cut.run_size 9 w).trans (Tryz.sizeOf9 w)
 v9:=fun w=>(Cut.run_zero 9 w).trans (Tryz.zeroValue9 w)
 t28:=(Cut.under_eq 24).trans Tryz.underlying24
 a28:=fun w=>(Cut.run_agg 24 w).trans (Tryz.isAgg24 w)
 z28:=fun w=>(Cut.run_size 24 w).trans (Tryz.sizeOf24 w)
 v28:=fun w=>(Cut.run_zero 24 w).trans (Tryz.zeroValue24 w)
 t46:=(Cut.under_eq 165).trans Tryz.underlying165
 a46:=fun w=>(Cut.run_agg 165 w).trans (Tryz.isAgg165 w)
 z46:=fun w=>(Cut.run_size 165 w).trans (Tryz.sizeOf165 w)
 v46:=fun w=>(Cut.run_zero 165 w).trans (Tryz.zeroValue165 w)
 t51:=(Cut.under_eq 143).trans Tryz.underlying143
 a51:=fun w=>(Cut.run_agg 143 w).trans (Tryz.isAgg143 w)
 z51:=fun w=>(Cut.run_size 143 w).trans (Tryz.sizeOf143 w)
 v51:=fun w=>(Cut.run_zero 143 w).trans (Tryz.zeroValue143 w)
 t53:=(Cut.under_eq 140).trans Tryz.underlying140
 a53:=fun w=>(Cut.run_agg 140 w).trans (Tryz.isAgg140 w)
 z53:=fun w=>(Cut.run_size 140 w).trans (Tryz.sizeOf140 w)
 v53:=fun w=>(Cut.run_zero 140 w).trans (Tryz.zeroValue140 w)
 t131:=(Cut.under_eq 197).trans Tryz.underlying197
 a131:=fun w=>(Cut.run_agg 197 w).trans (Tryz.isAgg197 w)
 z131:=fun w=>(Cut.run_size 197 w).trans (Tryz.sizeOf197 w)
 v131:=fun w=>(Cut.run_zero 197 w).trans (Tryz.zeroValue197 w)
 t182:=(Cut.under_eq 192).trans Tryz.underlying192
 a182:=fun w=>(Cut.run_agg 192 w).trans (Tryz.isAgg192 w)
 z182:=fun w=>(Cut.run_size 192 w).trans (Tryz.sizeOf192 w)
 v182:=fun w=>(Cut.run_zero 192 w).trans (Tryz.zeroValue192 w)
 t183:=(Cut.under_eq 193).trans Tryz.underlying193
 a183:=fun w=>(Cut.run_agg 193 w).trans (Tryz.isAgg193 w)
 z183:=fun w=>(Cut.run_size 193 w).trans (Tryz.sizeOf193 w)
 v183:=fun w=>(Cut.run_zero 193 w).trans (Tryz.zeroValue193 w)
 t218:=(Cut.under_eq 201).trans Tryz.underlying201
 a218:=fun w=>(Cut.run_agg 201 w).trans (Tryz.isAgg201 w)
 z218:=fun w=>(Cut.run_size 201 w).trans (Tryz.sizeOf201 w)
 v218:=fun w=>(Cut.run_zero 201 w).trans (Tryz.zeroValue201 w)
 t222:=(Cut.under_eq 204).trans Tryz.underlying204
 a222:=fun w=>(Cut.run_agg 204 w).trans (Tryz.isAgg204 w)
 z222:=fun w=>(Cut.run_size 204 w).trans (Tryz.sizeOf204 w)
 v222:=fun w=>(Cut.run_zero 204 w).trans (Tryz.zeroValue204 w)
 t228:=(Cut.under_eq 206).trans Tryz.underlying206
 a228:=fun w=>(Cut.run_agg 206 w).trans (Tryz.isAgg206 w)
 z228:=fun w=>(Cut.run_size 206 w).trans (Tryz.sizeOf206 w)
 v228:=fun w=>(Cut.run_zero 206 w).trans (Tryz.zeroValue206 w)
 t229:=(Cut.under_eq 207).trans Tryz.underlying207
 a229:=fun w=>(Cut.run_agg 207 w).trans (Tryz.isAgg207 w)
 z229:=fun w=>(Cut.run_size 207 w).trans (Tryz.sizeOf207 w)
 v229:=fun w=>(Cut.run_zero 207 w).trans (Tryz.zeroValue207 w)
end Go.Proofs.Cut
namespace Go.Proofs.YtcpnkpogebjieaaGreat
section
open Go.RowKit Go.Sort Go.Shelf
theorem Qd6 (w:World):Calls Cut.prog 158 #[.slice none 0 0,.int .i64 0,.int .i64 0] w fun e w'=>e=.returned (.tuple #[])∧w'=w:=by
 go_enter (Cut.func_of Tryz.func158 rfl),Tryz.ntmps158
 go_wp2
 refine wp_loop_rounds 1 ?_
 rw[rounds_succ]
 go_wp2
 go_end0
 exact⟨rfl,rfl⟩
theorem Qfo (w:World):Calls Cut.prog 154 #[.slice none 0 0,.int .i64 0,.int .i64 0,.int .i64 0] w fun e w'=>e=.returned (.tuple #[])∧w'=w:=by
 go_enter (Cut.func_of Tryz.func154 rfl),Tryz.ntmps154
 go_wp2
 refine wp_loop_rounds 1 ?_
 rw[rounds_succ]
 go_wp2_with (first|(go_at_call 158;refine(Qd6 _).mono ?_;rintro e w' ⟨rfl,rfl⟩))
 refine bodyPost_ret (results_none rfl _ _ _) rfl ?_
 exact⟨rfl,rfl⟩
theorem Qf4 (w:World):Calls Cut.prog 146 #[.slice none 0 0] w fun e w'=>e=.returned (.tuple #[])∧w'=w:=by
 have hLen:∀w,Calls Cut.prog 155 #[.int .u64 0] w fun e w'=>e=.returned (.int .i64 0)∧w'=w:=fun w=>Any.bits_Len (ρ:=Cut.ren189) {Cut.lays189 with} 0 w (by omega) (by omega)
 go_enter (Cut.func_of Tryz.func146 rfl),Tryz.ntmps146
 go_wp2_with (first
  |(go_at_call 155;refine(hLen _).mono ?_;rintro e w' ⟨rfl,rfl⟩)
  |(go_at_call 154;refine(Qfo _).mono ?_;rintro e w' ⟨rfl,rfl⟩))
 go_end0
 exact⟨rfl,rfl⟩
def srt (zs:List Int):List Int:=zs.mergeSort fun x y=>decide (x≤y)
theorem Qf5 {w:World}{N:Nat}{v:Value}{zs:List Int}(h:Qa w N v zs)(hl:zs.length<1000000):
 Calls Cut.prog 146 #[v] w fun e w'=>e=.returned (.tuple #[])∧Qa w' N v (srt zs)∧w.grownBy w' v.ownBlock:=by
 obtain⟨h1,⟨rfl,h2⟩|⟨g,cap,cur,rfl,hg,hb,hn,hc,hs,ht⟩⟩:=h
 ·obtain rfl:zs=[]:=List.eq_nil_of_length_eq_zero h2
  refine(Qf4 w).mono ?_
  rintro e w' ⟨rfl,rfl⟩
  have e:srt []=[]:=by simp[srt]
  rw[e]
  exact⟨rfl,⟨rfl,.inl ⟨rfl,rfl⟩⟩,⟨rfl,rfl,rfl,Nat.le_refl _,fun _ _ _=>rfl⟩⟩
 ·rw[Nat.mul_one]at ht
  refine(Any.slices_Sort_int Cut.lays189 g 0 cap zs w (holds_of_blockI hb ht) (Array.getElem?_eq_some_iff.1 hb).1 (by omega)).mono ?_
  rintro e w' ⟨rfl,n,os,rfl⟩
  have hlen:(srt zs).length=zs.length:=by simp[srt]
  refine⟨rfl,?_,grownBy_sortedI _⟩
  have:=ownsRow_sortedI (n:=n) (os:=os) (ts:=srt zs) (ss:=zs) hlen hg hb hn hc hs
  unfold Qa
  rw[hlen]
  exact this
end
end Go.Proofs.YtcpnkpogebjieaaGreat
