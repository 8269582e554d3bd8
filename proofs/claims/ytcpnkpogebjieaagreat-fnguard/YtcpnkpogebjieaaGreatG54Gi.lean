/- The law on guardians: what its loop asks of a watch, out of the specification's turns. No -/
import Derived.Test.YtcpnkpogebjieaaGreatG53Gc
import Derived.Conc.CompanyCalls
open List renaming getElem?_toArray→Qhp,getElem?_cons_zero→Qhq,getElem?_cons_succ→Qhr
set_option maxRecDepth 100000
set_option maxHeartbeats 4000000
namespace Go.Proofs.YtcpnkpogebjieaaGreat
namespace Co
theorem Qga {h:Hp}(c:OkC h):(spS h 0).2.2=reachP h.p:=by
 have e:okP h.p=true:=YA c
 simp only[reachP,e,if_true]
 rfl
theorem QdV {h x:Hp}{ms L:List Int}(c:OkC h)(H:∀yy mm,CoP h.p yy mm→yy=x.p∧mm=ms)(hL:∀z,z∈L↔z∈reachP h.p):
 (∀p∈h.ws,GW x ms L p)∧(h.ds.filter fun p=>decide (p.1∈L)).length+(h.ws.filter fun p=>decide (p.1∈L)&& !decide (p.2∈L)).length≤x.ds.length∧(h.ws.filter fun p=>decide (p.1∈L)&&decide (p.2∈L)).length≤x.ws.length∧x.ws.length+x.ds.length≤h.ws.length+h.ds.length:=by
 obtain⟨n,hn,e1,e2,e3,hX⟩:=QeL c H
 have hL0:∀z,z∈L↔z∈(spS h 0).2.2:=fun z=>by rw[Qga c];exact hL z
 have hd:∀z,decide (z∈L)=decide (z∈(spS h 0).2.2):=fun z=>by rw[Bool.eq_iff_iff,decide_eq_true_eq,decide_eq_true_eq];exact hL0 z
 simp only[hd]
 refine⟨fun p hp hg=>?_,?_,?_,?_⟩
 ·have hwo:=Uk (h:=h) c.wo p hp
  have hg0:=(hL0 _).1 hg
  have hlen:ms.length=h.os.length:=by rw[e3,JM]
  have hX1:=hX _ hg0
  obtain⟨⟨a1,a2⟩,b1,b2⟩:=hwo
  have e4:∀z:Int,0≤z→z<(h.os.length:Int)→ms.getD z.toNat 0=pos (reachP (h.tells (spS h n).1 (spS h n).2.1).p) z:=fun z z0 z1=>by
   have hh:z.toNat<(whs (reachP (h.tells (spS h n).1 (spS h n).2.1).p) h.os.length).length:=by rw[JM];omega
   rw[e3,List.getD_eq_getElem?_getD,List.getElem?_eq_getElem hh,Option.getD_some,UW _ _ _ z0 hh]
  refine⟨⟨a1,by omega,b1,by omega⟩,fun ho=>?_,fun ho=>?_⟩
  ·rw[e4 _ a1 a2,e4 _ b1 b2,e1]
   exact Qa7 (Qaz h hp ((hL0 _).1 ho) n) hX1
  ·rw[e4 _ a1 a2,e4 _ b1 b2,e2]
   exact Qa7 (Qf8 h hp hg0 (fun q=>ho ((hL0 _).2 q)) hn) hX1
 ·rw[e2];exact Qf7 h hn hX
 ·rw[e1];exact Qf9 h n hX
 ·rw[e1,e2]
  have h1:=Qa6 (spS h n).1 (reachP (h.tells (spS h n).1 (spS h n).2.1).p)
  have h2:=Qa6 (spS h n).2.1 (reachP (h.tells (spS h n).1 (spS h n).2.1).p)
  have h3:=Qax h n
  omega
end Co
namespace Co
open Go.Conc Go.ConcN Go.RowKit Go.Conc.Lib Go.ConcR.Gen
open Go.ConcR (DC0)
set_option linter.unusedSimpArgs false
def GdF (X0:Nat→Bool)(w0:World)(X:Nat→Bool)(g':Goroutine)(w:World):Prop:=
 ∃(T:Array Value) (b3 b4:Nat) (h x:Hp) (ga:Option Addr) (gcap:Nat) (ms:List Int),T.size=130∧T[3]? =some (.pointer (some ⟨b3,0,none⟩))∧T[4]? =some (.pointer (some ⟨b4,0,none⟩))∧T[5]? =some (.slice ga ms.length gcap)∧
  (okP h.p=false→x.p=([],[],[],[])∧ms=[])∧(okP h.p=true→∀yy mm,CoP h.p yy mm→yy=x.p∧mm=ms)∧g'=G ((base 4).at ⟨T,[]⟩ [.code gdF]) []∧
  LS X0 w0 X (fun E=>Blk E b3 (Hp.cells h) 27∧Fit E h∧Qg E x∧Qk E ga ms∧Blk E b4 (Hp.cells x) 27) w
section
variable {X0 X X':Nat→Bool} {Ch:Nat}
theorem QdJ {w0 wq:World}{T:Array Value}{b3:Nat}{h:Hp}(hT:T.size=130)(t3:T[3]? =some (.pointer (some ⟨b3,0,none⟩)))(hI:LS X0 w0 X (fun E=>Blk E b3 (Hp.cells h) 27∧Fit E h) wq){g:Hp}{gv:Value}{w:World}(ho:Uq h X wq X' g gv w):
 Qt Tryz.prog X' Ch (GdF X0 w0 X') (G ((Ko T).finish (.tuple #[Hp.v g,gv])) []) w:=by
 obtain⟨f,rfl⟩:=UC T hT
 simp only[Qhp,Qhq,Qhr,Option.some.injEq]at t3
 rw[t3]
 clear t3 hT
 obtain⟨M,zs,o1,o2,o3,o4,o5,o6,o7,o8⟩:=ho.res
 obtain⟨ga,gcap,rfl,-⟩:=o2.form
 have hM:LS X0 w0 X' (fun E=>Blk E b3 (Hp.cells h) 27∧Fit E h∧Qg E g∧Qk E ga zs) w:=by
  have h1:=hI.mc ho
  refine⟨h1.la,fun E E' o ⟨a1,a2,a3,a4⟩=>⟨Jd a1 o,Yb a2 o,Qg.heap a3 o.1 o.2,K4 a4 o⟩,h1.p.1,h1.p.2,(o1.same fun b hb=>Z7 (o5 b hb)).isIn,?_⟩
  obtain⟨a',cap',e,hs,-⟩:=Qa.form (show Qa (emW X' w) wq.heap.size (.slice ga zs.length gcap) zs from ZP o2 fun b hb=>Z7 (o6 b hb))
  simp only[Value.slice.injEq]at e
  rw[e.1];exact hs
 clear o1 o2 o3 o4 o5 o6 hI ho
 obtain⟨goa,goc,gos,gra,grc,grs,gwa,gwc,gws,gda,gdc,gds⟩:=g
 obtain⟨D0,hD0⟩:∃D0,D0=gdF:=⟨_,rfl⟩
 rw[Ko,Frame.finish_at,←hD0]
 simp only[Vk,gdC,gdB,Tryz.f4,Qhp,Qhr,Qhq,Option.bind_some]
 refine QI (n:=10) ?_
 walk_nrm
 u_op LS.rely hM
 u_op LS.rely hM
 u_op LS.rely hM
 refine Goes.stop (fun w3 h3=>?_)
 replace hM:=LS.rely hM h3
 clear h3
 refine ZL rfl (fun w4 h4=>?_)
 have hz:=ZR h4
 replace hM:=LS.rely hM h4
 clear h4
 refine goes_oper_k rfl rfl (by decide) (fun K hK=>?_)
 go_simp
 refine hK _ _ ⟨⟨by simp;omega,fun B hB e he=>?_⟩,?_⟩
 ·have hm:=mem_listed he
  simp[go_sem]at hm
 clear hK K
 have hN:=hM.alloc (m:=0) (Nat.zero_le _)
 clear hM hz
 generalize w4.alloc (Obj.cells #[Value.slice none 0 0,Value.slice none 0 0,Value.slice none 0 0,Value.slice none 0 0] 27)=w5 at hN
 generalize w4.heap.size=bq at hN
 clear w4
 refine ZL rfl (fun w6 h6=>?_)
 have hz:=ZR h6
 replace hN:=LT.rely hN h6
 clear h6
 have hl:=hN.k.lt
 obtain⟨c0,c1,c2,c3⟩:=Qc hN.k
 obtain⟨f0,f1,f2,f3⟩:=QH hN.k
 have bk:=(Q8 hN.k (.slice goa gos.length goc) (.slice gra grs.length grc) (.slice gwa gws.length gwc) (.slice gda gds.length gdc)).2
 refine goes_oper_k rfl rfl (by decide) (fun K hK=>?_)
 simp only[Hp.v]
 go_simp
 refine hK _ _ ⟨⟨by simp[World.setCell];omega,fun B hB e he=>?_⟩,?_⟩
 ·have hm:=mem_listed he
  have hB':w6.heap.size≤B:=by simpa[World.setCell]using hB
  simp[go_sem,Hp.v,c0,c1,c2,c3,f0,f1,f2,f3]at hm
  rcases hm with rfl|rfl|rfl|rfl<;>exact⟨hN.xb,by show bq<B;omega⟩
 clear hK K hz
 replace hN:=hN.box bk (by simp[World.setCell]) (fun b hb=>by rw[Below.heap_setCell _ _ _ _ hb,Below.heap_setCell _ _ _ _ hb,Below.heap_setCell _ _ _ _ hb,Below.heap_setCell _ _ _ _ hb]) ⟨rfl,rfl⟩
 generalize (((w6.setCell ⟨bq,0,none⟩ (.slice goa gos.length goc)).setCell ⟨bq,1,none⟩ (.slice gra grs.length grc)).setCell ⟨bq,2,none⟩ (.slice gwa gws.length gwc)).setCell ⟨bq,3,none⟩ (.slice gda gds.length gdc)=w10 at *
 clear c0 c1 c2 c3 f0 f1 f2 f3 bk hl
 refine QI (n:=10) ?_
 try walk_nrm
 u_op LT.rely hN
 u_c stepG_region_end LT.rely hN
 refine Goes.stop (fun w11 h11=>.stop ?_)
 replace hN:=LT.rely hN h11
 obtain⟨⟨d1,d2,d3,d4⟩,d5,-⟩:=hN.done
 rw[hD0]
 exact⟨_,b3,bq,h,_,ga,gcap,zs,rfl,rfl,rfl,rfl,o7,o8,rfl,⟨hN.la,fun E E' o ⟨a1,a2,a3,a4,a5⟩=>⟨Jd a1 o,Yb a2 o,Qg.heap a3 o.1 o.2,K4 a4 o,Jd a5 o⟩,d1,d2,d3,d4,d5⟩⟩
section
variable {h x:Hp} {b3 b4:Nat} {ga:Option Addr} {gcap:Nat} {ms:List Int} {la:Option Addr} {lcap:Nat} {L:List Int} {r0 r q:Nat}
theorem QdD {T:Array Value}(hT:T.size=130)(t3:T[3]? =some (.pointer (some ⟨b3,0,none⟩)))(t4:T[4]? =some (.pointer (some ⟨b4,0,none⟩)))(t5:T[5]? =some (.slice ga ms.length gcap))(E:World)(k3:Blk E b3 (Hp.cells h) 27)(hf:Fit E h)(k4:Blk E b4 (Hp.cells x) 27)(hx:Qg E x)(hsx:Zl x)(an:okP h.p=false→x.p=([],[],[],[])):
 chain Cut.prog (fun c a w1=>c=gdG∧Sg b3 b4 (.slice ga ms.length gcap) a∧okP h.p=true∧Below E.heap.size E w1∧∃(la:Option Addr) (lcap:Nat) (L:List Int),a.tmps[6]? =some (.slice la L.length lcap)∧a.tmps[7]? =some (.int .i64 ((h.ds.filter fun p=>decide (p.1∈L)).length:Nat))∧a.tmps[8]? =some (.int .i64 0)∧Qk w1 la L∧L.length≤68∧∀z,z∈L↔z∈reachP h.p)
  (fun a w1=>a.defers=[]∧a.tmps.size=130∧a.tmps[2]? =some (.bool true)∧Below E.heap.size E w1) 5 gdF ⟨T,[]⟩ E:=by
 obtain⟨f,rfl⟩:=UC T hT
 simp only[Qhp,Qhq,Qhr,Option.some.injEq]at t3 t4 t5
 rw[t3,t4,t5]
 exact Qey _ _ _ _ _ _ _ _ _ _ _ _ _ _ _ _ _ _ _ _ _ _ _ _ _ _ _ _ _ _ _ _ _ _ _ _ _ _ _ _ _ _ _ _ _ _ _ _ _ _ _ _ _ _ _ _ _ _ _ _ _ _ _ _ _ _ _ _ _ _ _ _ _ _ _ _ _ _ _ _ _ _ _ _ _ _ _ _ _ _ _ _ _ _ _ _ _ _ _ _ _ _ _ _ _ _ _ _ _ _ _ _ _ _ _ _ _ _ _ _ _ _ _ _ _ _ _ E k3 hf k4 hx hsx an
theorem QdE {T:Array Value}(hT:T.size=130)(t3:T[3]? =some (.pointer (some ⟨b3,0,none⟩)))(t4:T[4]? =some (.pointer (some ⟨b4,0,none⟩)))(t5:T[5]? =some (.slice ga ms.length gcap))(t6:T[6]? =some (.slice la L.length lcap))(t7:T[7]? =some (.int .i64 (r0:Nat)))(t8:T[8]? =some (.int .i64 0))(E:World)(k3:Blk E b3 (Hp.cells h) 27)(hh:Qg E h)(k4:Blk E b4 (Hp.cells x) 27)(hx:Qg E x)(hg:Qk E ga ms)(hl:Qk E la L)(hl68:L.length≤68)(hr0:r0≤20)(hw20:h.ws.length≤20)(hx1:x.ws.length≤20)(hx2:x.ds.length≤20)(HW:Hid (∀p∈h.ws,GW x ms L p)):
 chain Cut.prog (fun c a w1=>c=gdH∧Sg b3 b4 (.slice ga ms.length gcap) a∧a.tmps[7]? =some (.int .i64 (r0+(h.ws.filter fun p=>decide (p.1∈L)&& !decide (p.2∈L)).length:Nat))∧a.tmps[8]? =some (.int .i64 ((h.ws.filter fun p=>decide (p.1∈L)&&decide (p.2∈L)).length:Nat))∧Below E.heap.size E w1) (fun _ _=>False) 1 gdG ⟨T,[]⟩ E:=by
 obtain⟨f,rfl⟩:=UC T hT
 simp only[Qhp,Qhq,Qhr,Option.some.injEq]at t3 t4 t5 t6 t7 t8
 rw[t3,t4,t5,t6,t7,t8]
 exact Qez _ _ _ _ _ _ _ _ _ _ _ _ _ _ _ _ _ _ _ _ _ _ _ _ _ _ _ _ _ _ _ _ _ _ _ _ _ _ _ _ _ _ _ _ _ _ _ _ _ _ _ _ _ _ _ _ _ _ _ _ _ _ _ _ _ _ _ _ _ _ _ _ _ _ _ _ _ _ _ _ _ _ _ _ _ _ _ _ _ _ _ _ _ _ _ _ _ _ _ _ _ _ _ _ _ _ _ _ _ _ _ _ _ _ _ _ _ _ _ _ _ _ _ _ E k3 hh k4 hx hg hl hl68 hr0 hw20 hx1 hx2 HW
theorem QdF {T:Array Value}(hT:T.size=130)(t3:T[3]? =some (.pointer (some ⟨b3,0,none⟩)))(t4:T[4]? =some (.pointer (some ⟨b4,0,none⟩)))(t7:T[7]? =some (.int .i64 (r:Nat)))(t8:T[8]? =some (.int .i64 (q:Nat)))(E:World)(k3:Blk E b3 (Hp.cells h) 27)(hf:Fit E h)(k4:Blk E b4 (Hp.cells x) 27)(hx:Qg E x)(hsx:Zl x)(hw20:h.ws.length+h.ds.length≤20)(hok:okP h.p=true)(an:∀yy mm,CoP h.p yy mm→yy=x.p∧mm=ms)
 (hr:r≤x.ds.length)(hq:q≤x.ws.length)(hsum:x.ws.length+x.ds.length≤h.ws.length+h.ds.length):
 gdH.wp Cut.prog (Z9 (fun _ _=>False) (fun a w1=>a.defers=[]∧a.tmps.size=130∧a.tmps[2]? =some (.bool true)∧Below E.heap.size E w1)) ⟨T,[]⟩ E:=by
 obtain⟨f,rfl⟩:=UC T hT
 simp only[Qhp,Qhq,Qhr,Option.some.injEq]at t3 t4 t7 t8
 rw[t3,t4,t7,t8]
 exact QeA _ _ _ _ _ _ _ _ _ _ _ _ _ _ _ _ _ _ _ _ _ _ _ _ _ _ _ _ _ _ _ _ _ _ _ _ _ _ _ _ _ _ _ _ _ _ _ _ _ _ _ _ _ _ _ _ _ _ _ _ _ _ _ _ _ _ _ _ _ _ _ _ _ _ _ _ _ _ _ _ _ _ _ _ _ _ _ _ _ _ _ _ _ _ _ _ _ _ _ _ _ _ _ _ _ _ _ _ _ _ _ _ _ _ _ _ _ _ _ _ _ _ _ _ _ _ E k3 hf k4 hx hsx hw20 hok an hr hq hsum
end
end
end Co
namespace Co
open Go.Conc Go.ConcN Go.RowKit Go.Conc.Lib Go.ConcR.Gen
section
variable {X0 X X':Nat→Bool} {Ch:Nat}
def GdH (X0:Nat→Bool)(w0:World)(X:Nat→Bool)(g':Goroutine)(w:World):Prop:=
 ∃(T:Array Value) (b3 b4:Nat) (h x:Hp) (ms:List Int) (r q:Nat),T.size=130∧T[3]? =some (.pointer (some ⟨b3,0,none⟩))∧T[4]? =some (.pointer (some ⟨b4,0,none⟩))∧T[7]? =some (.int .i64 (r:Nat))∧T[8]? =some (.int .i64 (q:Nat))∧
  okP h.p=true∧(∀yy mm,CoP h.p yy mm→yy=x.p∧mm=ms)∧r≤x.ds.length∧q≤x.ws.length∧x.ws.length+x.ds.length≤h.ws.length+h.ds.length∧g'=G ((base 4).at ⟨T,[]⟩ [.code gdH]) []∧
  LS X0 w0 X (fun E=>Blk E b3 (Hp.cells h) 27∧Fit E h∧Qg E x∧Blk E b4 (Hp.cells x) 27) w
theorem Qe6 {x:Hp}(e:x.p=([],[],[],[])):Zl x:=by
 simp only[Hp.p,Prod.mk.injEq,List.map_eq_nil_iff]at e
 obtain⟨e1,e2,e3,e4⟩:=e
 exact⟨by rw[e1];simp,fun i hi=>by rw[e1]at hi;simp at hi,by rw[e2];simp,by rw[e3];simp,by rw[e4];simp⟩
theorem QdI {w0:World}{g':Goroutine}{w:World}(hD:GdF X0 w0 X g' w):Qt Tryz.prog X Ch (fun g w1=>GdH X0 w0 X g w1∨U2 X0 w0 X g w1) g' w:=by
 obtain⟨T,b3,b4,h,x,ga,gcap,ms,hT,t3,t4,t5,an1,an2,rfl,hI⟩:=hD
 have hok:QO Tryz.progTables gdF=true:=by kernel_rfl
 have hbig:=hI.la.big
 have hsx:Zl x:=by
  cases ho:okP h.p with
  |false=>exact Qe6 (an1 ho).1
  |true=>exact(KC (YN ho) (an2 ho)).small
 refine V2 6 hI.la.sn (Kn rfl hok) (R:=fun c a w2=>∃u:World,(u.heap=(emW X w).heap∧OO u w)∧(c=gdH∧Sg b3 b4 (.slice ga ms.length gcap) a∧(∃r q:Nat,a.tmps[7]? =some (.int .i64 (r:Nat))∧a.tmps[8]? =some (.int .i64 (q:Nat))∧okP h.p=true∧r≤x.ds.length∧q≤x.ws.length∧x.ws.length+x.ds.length≤h.ws.length+h.ds.length)∧Below u.heap.size u w2)) (Rr:=fun a w2=>∃u:World,(u.heap=(emW X w).heap∧OO u w)∧GdR u a w2) (fun t d=>?_) (fun c' a w2 w2' hE hS hK hFO hR=>?_) (fun a todo w2 w2' hE hS hK hFO hR=>?_)
 ·have hu:On (emW X w) {emW X w with tape:=t,drawn:=d}:=O1 t d
  obtain⟨p1,p2,p3,p4,p5⟩:=hI.p
  have c1:=QdD hT t3 t4 t5 {emW X w with tape:=t,drawn:=d} (Jd p1 hu) (Yb p2 hu) (Jd p5 hu) (Qg.heap p3 hu.1 hu.2) hsx (fun e=>(an1 e).1)
  refine PC (n:=5) (m:=1) (Uu c1 ?_ (fun a w1 hq=>⟨{emW X w with tape:=t,drawn:=d},⟨rfl,rfl,rfl⟩,hq⟩))
  rintro c ⟨T1,D1⟩ w1 ⟨rfl,s1,hokp,hb1,la,lcap,L,s6,s7,s8,hl,hl68,hiff⟩
  have e1:D1=[]:=s1.df
  subst e1
  have o1:=hu.trans (On.of hb1 (Nat.le_refl _))
  have c:=YN hokp
  have cx:=KC c (an2 hokp)
  have hw:=c.w20
  have hwx:=cx.w20
  obtain⟨q1,q2,q3,q4⟩:=QdV c (an2 hokp) hiff
  have hdl:(h.ds.filter fun p=>decide (p.1∈L)).length≤20:=Nat.le_trans (List.length_filter_le _ _) (by omega)
  have c2:=QdE s1.sz s1.t3 s1.t4 s1.t5 s6 s7 s8 w1 (Jd p1 o1) (Yb p2 o1).isIn (Jd p5 o1) (Qg.heap p3 o1.1 o1.2) (K4 p4 o1) hl hl68 hdl (by omega) (by omega) (by omega) q1
  refine Uu c2 ?_ (fun _ _ h=>h.elim)
  rintro c a w3 ⟨rfl,s2,n7,n8,hb2⟩
  exact⟨{emW X w with tape:=t,drawn:=d},⟨rfl,rfl,rfl⟩,rfl,s2,⟨_,_,n7,n8,hokp,q2,q3,q4⟩,hb1.trans (hb2.mono hb1.size)⟩
 ·obtain⟨u,⟨hu,huo⟩,rfl,s,⟨r,q,n7,n8,hokp,q2,q3,q4⟩,hB⟩:=hR
  obtain⟨T,D⟩:=a
  have e1:D=[]:=s.df
  subst e1
  have us:u.heap.size=w.heap.size:=by rw[hu,QD]
  have ou:On (emW X w) u:=⟨by rw[hu];exact Nat.le_refl _,fun b _=>by rw[hu]⟩
  have o2:On (emW X w) (emW X w2):=ou.trans ((On.of hB (Nat.le_refl _)).trans (KM hE))
  obtain⟨p1,p2,p3,p4,p5⟩:=hI.p
  refine .stop (.inl ⟨T,b3,b4,h,x,ms,r,q,s.sz,s.t3,s.t4,n7,n8,hokp,an2 hokp,q2,q3,q4,rfl,⟨hI.la.piece rfl hu huo hE hS hK (hB.mono (by rw[us];exact hbig)),fun E E' o ⟨a1,a2,a3,a4⟩=>⟨Jd a1 o,Yb a2 o,Qg.heap a3 o.1 o.2,Jd a4 o⟩,Jd p1 o2,Yb p2 o2,Qg.heap p3 o2.1 o2.2,Jd p5 o2⟩⟩)
 ·obtain⟨u,⟨hu,huo⟩,r1,r2,r3,hB⟩:=hR
  have us:u.heap.size=w.heap.size:=by rw[hu,QD]
  exact .stop (.inr ⟨_,rfl,rfl,r1,rfl,rfl,by
   show a.tmps.getD 2 undef=_
   rw[Array.getD_eq_getD_getElem?,r3]
   rfl,hI.la.piece rfl hu huo hE hS hK (hB.mono (by rw[us];exact hbig))⟩)
theorem QdH {w0:World}{g':Goroutine}{w:World}(hD:GdH X0 w0 X g' w):Qt Tryz.prog X Ch (U2 X0 w0 X) g' w:=by
 obtain⟨T,b3,b4,h,x,ms,r,q,hT,t3,t4,t7,t8,hokp,an,q2,q3,q4,rfl,hI⟩:=hD
 have hok:QO Tryz.progTables gdH=true:=by kernel_rfl
 have hbig:=hI.la.big
 have c:=YN hokp
 refine V5 hI.la.sn (Kn rfl hok) (R:=fun _ _=>False) (Rr:=fun a w2=>∃u:World,(u.heap=(emW X w).heap∧OO u w)∧GdR u a w2) (fun t d=>?_) (fun a w2 w2' hE hS hK hFO hR=>hR.elim) (fun a todo w2 w2' hE hS hK hFO hR=>?_)
 ·have hu:On (emW X w) {emW X w with tape:=t,drawn:=d}:=O1 t d
  obtain⟨p1,p2,p3,p4⟩:=hI.p
  refine wp_mono (QdF hT t3 t4 t7 t8 {emW X w with tape:=t,drawn:=d} (Jd p1 hu) (Yb p2 hu) (Jd p4 hu) (Qg.heap p3 hu.1 hu.2) (KC c an).small c.w20 hokp an q2 q3 q4) fun e a w1 hq=>?_
  cases e with
  |normal=>exact hq.elim
  |ret=>exact⟨{emW X w with tape:=t,drawn:=d},⟨rfl,rfl,rfl⟩,hq⟩
  |_=>exact hq
 ·obtain⟨u,⟨hu,huo⟩,r1,r2,r3,hB⟩:=hR
  have us:u.heap.size=w.heap.size:=by rw[hu,QD]
  exact .stop ⟨_,rfl,rfl,r1,rfl,rfl,by
   show a.tmps.getD 2 undef=_
   rw[Array.getD_eq_getD_getElem?,r3]
   rfl,hI.la.piece rfl hu huo hE hS hK (hB.mono (by rw[us];exact hbig))⟩
end
theorem QdW (a:Option Addr)(cap:Nat)(bs:List Int)(W:World)(hcap:bs.length≤cap)(hm:cap≤maxLen)(hby:∀x∈bs,0≤x∧x<256)(hsc:0<bs.length→∃b off,a=some ⟨b,off,none⟩∧b<W.heap.size∧∀i (hi:i<bs.length),W.cell? ⟨b,off+i,none⟩=some (.int .u8 bs[i])):
 ∃N last o w' t',runNT Tryz.prog (N+1) (solo (G (Frame.enter Tryz.prog 4 #[.slice a bs.length cap] .normal) []) W) #[]=(.ended o w',t')∧runN Tryz.prog N (solo (G (Frame.enter Tryz.prog 4 #[.slice a bs.length cap] .normal) []) W)=.next last∧step Tryz.prog last=.ended o w'∧
  Go.Conc.Good Tryz.prog (fun v w'=>v=.bool true∧w'.os=W.os∧w'.output=W.output∧W.heap.size≤w'.heap.size∧∀b,b<W.heap.size→w'.heap[b]? =W.heap[b]?) last o w' t':=by
 have hs:=Qf3 W
 have hB:=QbR W (G (Frame.enter Tryz.prog 4 #[.slice a bs.length cap] .normal) [])
 have fin:∀ {X:Nat→Bool} {SB:Nat→Prop} {gs:Array Goroutine} {w:World} {t:Trace} {sl:Option (Nat×Nat)} {K:Nat} {g:Goroutine},runNT Tryz.prog K (solo (G (Frame.enter Tryz.prog 4 #[.slice a bs.length cap] .normal) []) W) #[]=(.next (crowd gs w sl),t)→Bt X SB gs w t→gs[0]? =some g→U2 (X0 W) W X g w→
  ∃N last o w' t',runNT Tryz.prog (N+1) (solo (G (Frame.enter Tryz.prog 4 #[.slice a bs.length cap] .normal) []) W) #[]=(.ended o w',t')∧runN Tryz.prog N (solo (G (Frame.enter Tryz.prog 4 #[.slice a bs.length cap] .normal) []) W)=.next last∧step Tryz.prog last=.ended o w'∧
  Go.Conc.Good Tryz.prog (fun v w'=>v=.bool true∧w'.os=W.os∧w'.output=W.output∧W.heap.size≤w'.heap.size∧∀b,b<W.heap.size→w'.heap[b]? =W.heap[b]?) last o w' t':=by
  intro X SB gs w t sl K g hr hB h0 hE
  obtain⟨fr,rfl,e1,e2,e3,e4,e5,hA⟩:=hE
  refine QfS hr (Qdp hB h0 e1 e2 e3 (fn:=Tryz.f4) (by rw[e4];exact Tryz.func4) (by rw[e4];kernel_rfl) (v:=.bool true) (fun d=>?_) (fun d=>?_) (fun d=>⟨rfl,hA.oo.1,hA.oo.2,hA.big,fun b hb=>(hA.old b hb).1⟩) sl)
  ·have:=(resultsC_tmp (P:=Tryz.prog) (fn:=Tryz.f4) (t:=2) rfl fr.tmps (w.at d)).1
   rw[e5]at this
   exact this
  ·exact(resultsC_tmp (P:=Tryz.prog) (fn:=Tryz.f4) (t:=2) rfl fr.tmps (w.at d)).2
 obtain⟨n1,gs1,a1,w1,sl1,t1,hr1,hsz1,h01,hor,hB1⟩:=JV hB rfl (QdG (Ch:=0) hcap hm hby (fun hp=>by
  obtain⟨b,off,e1,e2,e3⟩:=hsc hp
  exact⟨b,off,e1,e2,fun i hi=>(QbZ W b _).trans (e3 i hi)⟩) hs) none
 rw[←solo_eq_crowd]at hr1
 rcases hor with⟨T,b3,y,q0,q3,rfl,hI⟩|hE
 ·have hf:=hI.p.2
  obtain⟨n2,gs2,w2,sl2,t2,X2,SB2,g,gv,hr2,h02,hB2,ho⟩:=QeM hf.small hf.txt hf.cap hB1 hI.la.sn hf.isIn h01 sl1
  obtain⟨n3,gs3,a3,w3,sl3,t3,hr3,hsz3,h03,hE3,hB3⟩:=JV hB2 h02 (Pb (QdJ (Ch:=0) q0 q3 hI ho) fun g w hD=>Pb (QdI hD) fun g w hD=>hD.elim (fun h=>QdH h) (fun h=>.stop h)) sl2
  refine fin (K:=n1+(n2+n3)) (sl:=sl3) ?_ hB3 h03 hE3
  rw[runNT_add,hr1]
  simp only
  rw[runNT_add,hr2]
  exact hr3
 ·exact fin hr1 hB1 h01 hE
end Co
end Go.Proofs.YtcpnkpogebjieaaGreat
