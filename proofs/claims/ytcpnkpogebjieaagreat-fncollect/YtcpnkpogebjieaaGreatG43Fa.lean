/- impl.MemCollect in company, whole, on every tape. -/
import Derived.Test.YtcpnkpogebjieaaGreatG42We
import Derived.Test.YtcpnkpogebjieaaGreatG18Ye
import Derived.Test.YtcpnkpogebjieaaGreatG31Dk
import Derived.Test.YtcpnkpogebjieaaGreatG28Dd
import Derived.Test.YtcpnkpogebjieaaGreatG15Vm
import Derived.Test.YtcpnkpogebjieaaGreatG11Mk1
import Derived.Test.YtcpnkpogebjieaaGreatG13Eq
open Go.Value renaming slice→Qhp
open Nat renaming le_refl→Qhq,le_trans→Qhs,zero_le→Qht,lt_of_lt_of_le→Qhx
open Go.Obj renaming cells→Qhr
open List renaming getElem?_toArray→Qhu,getElem?_cons_zero→Qhv,getElem?_cons_succ→Qhw,getElem?_eq_getElem→Qhy
set_option maxRecDepth 100000
set_option maxHeartbeats 4000000
namespace Go.Proofs.YtcpnkpogebjieaaGreat
namespace Co
open Go.Conc Go.ConcN Go.RowKit Go.Conc.Lib Go.ConcR.Gen
open Go.ConcR (DC0)
set_option linter.unusedSimpArgs false
section
variable {h:Hp} {X0:Nat→Bool} {N:Nat} {w0:World} {n:Nat} {X:Nat→Bool} {y:Hp} {w:World}
theorem JO.pp (R:JO h X0 N w0 n X y w):y.p=(h.tells (spS h n).1 (spS h n).2.1).p:=by
 obtain⟨e1,e2,e3,e4⟩:=R.eo
 show(_,_,_,_)=(_,_,_,_)
 rw[e1,e2,e3,e4]
 rfl
theorem JO.okC (R:JO h X0 N w0 n X y w)(hf:HF h):OkC y:=OkC.of_p R.pp (spI hf.ok n).ok
theorem JO.fit (R:JO h X0 N w0 n X y w)(hf:HF h)(t:Tape)(d:Nat):Fit {emW X w with tape:=t,drawn:=d} y:=by
 obtain⟨e1,_⟩:=R.eo
 refine⟨Vj R.hin t d,(R.okC hf).small,?_,?_⟩
 ·rw[e1];exact hf.txt
 ·rw[e1];exact hf.cap
theorem JO.exact (R:JO h X0 N w0 n X y w)(hf:HF h):∀yy mm,CoP h.p yy mm→yy=((pick y.os (reachP y.p)).map (QY (reachP y.p)),y.rs.map (wh (reachP y.p)),Qo y.ws (reachP y.p),Qo y.ds (reachP y.p))∧mm=whs (reachP y.p) y.os.length:=by
 intro yy mm hc
 have hn:=(P6 (R.okC hf)).1 R.nil
 obtain⟨e1,e2,e3,e4⟩:=R.eo
 have ep:=R.pp
 rw[e3,ep]at hn
 have:=V4 hf.ok hn hc
 rw[e1,e2,e3,e4,ep]
 exact this
end
structure MQ (X0:Nat→Bool) (w0:World) (br:Nat) (X:Nat→Bool) (y:Hp) (w:World):Prop where
 old:∀b,b<w0.heap.size→w.heap[b]? =w0.heap[b]? ∧X b=X0 b
 big:w0.heap.size≤w.heap.size
 b2:Blk w br [.slice none 0 0,.slice none 0 0,.slice none 0 0,.slice none 0 0] 27
 n2:w0.heap.size≤br
 x2:X br=false
 sn:Sn X w
 hin:Qg (emW X w) y
 oo:OO w w0
theorem MQ.rely {X0:Nat→Bool}{w0:World}{br:Nat}{X:Nat→Bool}{y:Hp}{w w1:World}(I:MQ X0 w0 br X y w)(r:AtRel w w1):MQ X0 w0 br X y w1:=by
 obtain⟨d,rfl⟩:=r
 exact⟨I.old,I.big,I.b2,I.n2,I.x2,I.sn.at d,Qg.heap I.hin (by rw[QD,QD];exact Qhq _) (fun b _=>by rw[Q7,Q7];rfl),I.oo⟩
structure MJ (X0:Nat→Bool) (w0:World) (br:Nat) (X:Nat→Bool) (cl:List Value) (M:Nat) (y:Hp) (gv:Value) (ms:List Int) (w:World):Prop where
 old:∀b,b<w0.heap.size→w.heap[b]? =w0.heap[b]? ∧X b=X0 b
 big:w0.heap.size≤w.heap.size
 b2:Blk w br cl 27
 n2:w0.heap.size≤br
 x2:X br=false
 sn:Sn X w
 oo:OO w w0
 po:Q5 w M y
 lo:Qa w w0.heap.size gv ms
 le:w0.heap.size≤M
 gl:∀k,gv.ownBlock=some k→k<M
 xr:∀b,Yq y b→X b=false
 xg:∀b,gv.ownBlock=some b→X b=false
theorem MJ.rely {X0:Nat→Bool}{w0:World}{br:Nat}{X:Nat→Bool}{cl:List Value}{M:Nat}{y:Hp}{gv:Value}{ms:List Int}{w w1:World}(I:MJ X0 w0 br X cl M y gv ms w)(r:AtRel w w1):MJ X0 w0 br X cl M y gv ms w1:=by
 obtain⟨d,rfl⟩:=r
 exact⟨I.old,I.big,I.b2,I.n2,I.x2,I.sn.at d,I.oo,I.po.same fun _ _=>rfl,ZP I.lo fun _ _=>rfl,I.le,I.gl,I.xr,I.xg⟩
theorem MJ.box {X0:Nat→Bool}{w0:World}{br:Nat}{X:Nat→Bool}{cl cl':List Value}{M:Nat}{y:Hp}{gv:Value}{ms:List Int}{w w1:World}(I:MJ X0 w0 br X cl M y gv ms w)(hb:Blk w1 br cl' 27)(hs:w1.heap.size=w.heap.size)(ho:∀b,b≠br→w1.heap[b]? =w.heap[b]?)(hoo:OO w1 w):MJ X0 w0 br X cl' M y gv ms w1:=by
 have n2:=I.n2
 have nr:=I.po.not_box I.b2 (by decide) (by decide) (by decide)
 have ng:=Qr I.lo I.b2 (by decide)
 refine⟨fun b hb'=>⟨(ho b (by omega)).trans (I.old b hb').1,(I.old b hb').2⟩,by rw[hs];exact I.big,hb,n2,I.x2,?_,hoo.trans I.oo,I.po.same fun b hr=>ho b (fun e=>nr (e▸hr)),ZP I.lo fun b hr=>ho b (fun e=>ng (e▸hr)),I.le,I.gl,I.xr,I.xg⟩
 refine I.sn.turn (by omega) (fun r hr=>ho r fun e=>?_) fun r o hr ho'=>?_
 ·rw[e,I.x2]at hr;cases hr
 ·by_cases e:r=br
  ·subst e
   unfold Blk at hb
   rw[hb]at ho'
   exact .inr (.inl ⟨_,_,_,(Option.some.inj ho').symm⟩)
  ·rw[ho r e]at ho';exact .inl ho'
section
variable {h:Hp} {X0 X1:Nat→Bool} {w0:World} {br:Nat} {y:Hp} {Ch:Nat} {c:Frame} {cs:List Frame}
theorem QeI {T:Array Value}(hT:T.size=13)(t2:T[2]? =some (.pointer (some ⟨br,0,none⟩))){w:World}(hokp:okP h.p=true)(hyp:okP y.p=true)(hfit:∀w,Qg (emW X1 w) y→∀t d,Fit {emW X1 w with tape:=t,drawn:=d} y)
 (hex:∀yy mm,CoP h.p yy mm→yy=((pick y.os (reachP y.p)).map (QY (reachP y.p)),y.rs.map (wh (reachP y.p)),Qo y.ws (reachP y.p),Qo y.ds (reachP y.p))∧mm=whs (reachP y.p) y.os.length)(hF:MQ X0 w0 br X1 y w):
 Qt Tryz.prog X1 Ch (fun g w'=>∃z v,g=G (c.finish (.tuple #[Hp.v z,v])) cs∧Uq h X0 w0 X1 z v w') (G ((mcC T).finish y.v) (c::cs)) w:=by
 obtain⟨v0,v1,v2,v3,v4,v5,v6,v7,v8,v9,v10,v11,v12,rfl⟩:=Y3 T hT
 simp only[Qhu,Qhv,Qhw,Option.some.injEq]at t2
 subst t2
 rw[mcC,Frame.finish_at]
 simp only[Vp,mcT,mcB,Tryz.f8,Qhu,Qhw,Qhv,Option.bind_some]
 refine QI (n:=10) ?_
 walk_nrm
 u_in MQ.rely hF
 refine goes_call rfl rfl (by decide) rfl Tryz.func32 rfl rfl ⟨by u_nil,?_⟩
 rw[←enter_at _ Tryz.func32 rfl]
 simp only[List.map_toArray,List.map_cons,List.map_nil,Act.eval,Array.getD_eq_getD_getElem?,Qhu,Qhw,Qhv,Option.getD_some]
 refine Goes.stop (fun w6 h6=>?_)
 replace hF:=MQ.rely hF h6
 clear h6
 have hxo:∀b,w6.heap.size≤b→X1 b=false:=fun b hb=>hF.sn.out hb
 have hfit6:=hfit w6 hF.hin
 refine VZ (R:=fun v w1=>∃(z:Hp) (gv:Value) (M:Nat),v=.tuple #[z.v,gv]∧z.p=((pick y.os (reachP y.p)).map (QY (reachP y.p)),y.rs.map (wh (reachP y.p)),Qo y.ws (reachP y.p),Qo y.ds (reachP y.p))∧Q5 w1 M z∧Qa w1 w6.heap.size gv (whs (reachP y.p) y.os.length)∧(∀k,gv.ownBlock=some k→k<M)∧w6.heap.size≤M) (by kernel_rfl) hF.sn (fun t d=>?_) (fun v w7 w7' hE hS7 ho hz hoo hR=>?_)
 ·refine(QeV y _ (hfit6 t d) hyp).mono ?_
  rintro e w1 ⟨z,gv,M,rfl,h1,h2,h3,h4,h5,h6⟩
  rw[show({emW X1 w6 with tape:=t,drawn:=d}:World).heap.size=w6.heap.size from QD X1 w6]at h3 h5 h6
  exact⟨_,rfl,⟨z,gv,M,rfl,h1,h2,h3,h4,h5⟩,h6⟩
 obtain⟨z,gv,M,rfl,e1,o1,o2,o3,o4⟩:=hR
 have hxr:∀b,Yq z b→X1 b=false:=fun b hb=>hxo b (by have:=(o1.rows_lt b hb).1;omega)
 have hxg:∀b,gv.ownBlock=some b→X1 b=false:=fun b hb=>hxo b ((o2.lt b hb).1)
 have hbig:=hF.big
 have hJ:MJ X0 w0 br X1 [.slice none 0 0,.slice none 0 0,.slice none 0 0,.slice none 0 0] M z gv (whs (reachP y.p) y.os.length) w7:=by
  refine⟨fun b hb=>⟨(ho b (by omega)).trans (hF.old b hb).1,(hF.old b hb).2⟩,by omega,hF.b2.same (ho _ hF.b2.lt),hF.n2,hF.x2,hS7,hoo.trans hF.oo,o1.same fun b hr=>JH hE (hxr b hr),?_,by omega,o3,hxr,hxg⟩
  exact Yh (ZP o2 fun b hr=>JH hE (hxg b hr)) hbig
 clear hF hE hS7 ho hz hoo o1 o2 o3 o4 hxr hxg hxo hfit6 hfit hbig
 have hans:∀yy mm,CoP h.p yy mm→yy=z.p∧mm=whs (reachP y.p) y.os.length:=fun yy mm hc=>by
  rw[e1];exact hex yy mm hc
 clear e1 hex
 generalize whs (reachP y.p) y.os.length=ms at hJ hans
 obtain⟨zoa,zoc,zos,zra,zrc,zrs,zwa,zwc,zws,zda,zdc,zds⟩:=z
 rw[Frame.finish_at]
 simp only[Qhu,Qhw,Qhv,Option.bind_some]
 refine QI (n:=10) ?_
 walk_nrm
 u_op MJ.rely hJ
 u_op MJ.rely hJ
 refine Goes.stop (fun w8 h8=>?_)
 replace hJ:=MJ.rely hJ h8
 clear h8
 refine ZL rfl (fun w9 h9=>?_)
 have hz:=ZR h9
 replace hJ:=MJ.rely hJ h9
 clear h9
 have hl:=hJ.b2.lt
 obtain⟨c0,c1,c2,c3⟩:=Qc hJ.b2
 obtain⟨f0,f1,f2,f3⟩:=QH hJ.b2
 obtain⟨kq,bq⟩:=Q8 hJ.b2 (.slice zoa zos.length zoc) (.slice zra zrs.length zrc) (.slice zwa zws.length zwc) (.slice zda zds.length zdc)
 clear kq
 refine goes_oper_k rfl rfl (by decide) (fun K hK=>?_)
 simp only[Hp.v]
 go_simp
 refine hK _ _ ⟨⟨by simp[World.setCell];omega,fun B hB e he=>?_⟩,?_⟩
 ·have hm:=mem_listed he
  have hB':w9.heap.size≤B:=by simpa[World.setCell]using hB
  simp[go_sem,Hp.v,c0,c1,c2,c3,f0,f1,f2,f3]at hm
  rcases hm with rfl|rfl|rfl|rfl<;>exact⟨hJ.x2,by show br<B;omega⟩
 clear hK K hz
 replace hJ:=hJ.box bq (by simp[World.setCell]) (fun b hb=>by rw[Below.heap_setCell _ _ _ _ hb,Below.heap_setCell _ _ _ _ hb,Below.heap_setCell _ _ _ _ hb,Below.heap_setCell _ _ _ _ hb]) ⟨rfl,rfl⟩
 generalize (((w9.setCell ⟨br,0,none⟩ (.slice zoa zos.length zoc)).setCell ⟨br,1,none⟩ (.slice zra zrs.length zrc)).setCell ⟨br,2,none⟩ (.slice zwa zws.length zwc)).setCell ⟨br,3,none⟩ (.slice zda zds.length zdc)=w10 at *
 clear c0 c1 c2 c3 f0 f1 f2 f3 bq hl w9
 refine QI (n:=10) ?_
 try walk_nrm
 u_op MJ.rely hJ
 u_c stepG_region_end MJ.rely hJ
 u_c stepG_ret' MJ.rely hJ
 refine Goes.stop (fun w11 h11=>?_)
 replace hJ:=MJ.rely hJ h11
 clear h11
 have hEm:=Vi X1 w11 w11.tape w11.drawn
 have hb2:Blk {emW X1 w11 with tape:=w11.tape,drawn:=w11.drawn} br [.slice zoa zos.length zoc,.slice zra zrs.length zrc,.slice zwa zws.length zwc,.slice zda zds.length zdc] 27:=Kh hJ.b2 hJ.x2 w11.tape w11.drawn
 generalize ({emW X1 w11 with tape:=w11.tape,drawn:=w11.drawn}:World)=E at hEm hb2
 obtain⟨z0,z1,z2,z3⟩:=Qc hb2
 refine Ky (v:=.tuple #[(⟨zoa,zoc,zos,zra,zrc,zrs,zwa,zwc,zws,zda,zdc,zds⟩:Hp).v,gv]) hJ.sn ?_ rfl rfl (fn:=Tryz.f8) Tryz.func8 hEm ?_ (fun d=>.stop ⟨_,_,rfl,?_⟩)
 ·refine⟨by kernel_rfl,fun i hi=>?_,(fun d hq=>by simp[Frame.at]at hq),rfl,fun l hl=>by cases hl⟩
  simp only[Frame.at,List.mem_cons,List.not_mem_nil,or_false]at hi
  subst hi
  exact(show QO Tryz.progTables .ret=true by kernel_rfl)
 ·simp[results,Frame.at,Tryz.results8,go_sem,z0,z1,z2,z3,Hp.v]
 ·have hJ2:=MJ.rely hJ ⟨d,rfl⟩
  exact⟨hJ2.old,hJ2.big,hJ2.sn,hJ2.oo,M,ms,hJ2.po,hJ2.lo,hJ2.le,hJ2.gl,hJ2.xr,hJ2.xg,(fun e=>by rw[hokp]at e;cases e),fun _=>hans⟩
theorem QeM (hsm:Zl h)(ht:∀i (hi:i<h.os.length),h.os[i].t.size≤maxLen)(hcap:∀(i:Nat) (hi:i<h.os.length),h.os[i].r.length≤h.os[i].rcap){X:Nat→Bool}{SB:Nat→Prop}{gs:Array Goroutine}{w:World}{t:Trace}(hB:Bt X SB gs w t)(hs:Sn X w)(hh:Qg (emW X w) h)
 (h0:gs[0]? =some (G (Frame.enter Tryz.prog 8 #[h.v] .normal) (c::cs)))(sl:Option (Nat×Nat)):
 ∃K gs' w' sl' t' X' SB' y v,runNT Tryz.prog K (crowd gs w sl) t=(.next (crowd gs' w' sl'),t')∧gs'[0]? =some (G (c.finish (.tuple #[Hp.v y,v])) cs)∧Bt X' SB' gs' w' t'∧Uq h X w X' y v w':=by
 obtain⟨n1,gs1,a1,w1,sl1,t1,hr1,hsz1,h01,hor,hB1⟩:=JV hB h0 (QeK (Ch:=0) (c:=c) (cs:=cs) hs hh hsm ht) sl
 rcases hor with⟨T,bx,br,hokp,hT,t2,rfl,hI⟩|⟨rfl,ho⟩
 ·have hf:HF h:=⟨YN hokp,ht,hcap⟩
  obtain⟨n2,gs2,w2,sl2,t2',X2,SB2,m,y,hr2,h02,hB2,hR⟩:=QbQ hf hB1 hI.sn hI.hin h01 sl1
  have hlb:=hI.b2.lt
  have hbig:=hI.big
  have hQ:MQ X w br X2 y w2:=by
   refine⟨fun b hb=>⟨((hR.old b (by omega)).1).trans (hI.old b hb).1,((hR.old b (by omega)).2).trans (hI.old b hb).2⟩,Qhs hbig hR.big,hI.b2.same (hR.old br hlb).1,hI.n2,((hR.old br hlb).2).trans hI.x2,hR.sn,hR.hin,hR.oo.trans hI.oo⟩
  have hy:=hR.okC hf
  obtain⟨e1,_⟩:=hR.eo
  obtain⟨n3,gs3,a3,w3,sl3,t3,hr3,hsz3,h03,⟨z,v,rfl,ho⟩,hB3⟩:=JV hB2 h02 (QeI (Ch:=0) (c:=c) (cs:=cs) hT t2 hokp (YA hy) (fun w hin t d=>⟨Vj hin t d,hy.small,by rw[e1];exact hf.txt,by rw[e1];exact hf.cap⟩) (hR.exact hf) hQ) sl2
  refine⟨n1+(n2+n3),gs3,w3,sl3,t3,X2,SB2,z,v,?_,h03,hB3,ho⟩
  rw[runNT_add,hr1]
  simp only
  rw[runNT_add,hr2]
  exact hr3
 ·exact⟨n1,gs1,w1,sl1,t1,X,SB,Jo,_,hr1,h01,hB1,ho⟩
end
end Co
namespace Co
open Go.RowKit
theorem QbC (T:Array Value):T=((List.range T.size).map fun i=>T.getD i undef).toArray:=by
 apply Array.ext
 ·simp
 ·intro i h1 h2
  simp[Array.getD,h1]
structure Zk (m:Nat) (E0 E:World):Prop where
 sz:E0.heap.size=m
 le:m≤E.heap.size
 bl:∀b,b<m→E.heap[b]? =E0.heap[b]?
theorem Zk.refl (E:World):Zk E.heap.size E E:=⟨rfl,Qhq _,fun _ _=>rfl⟩
theorem Zk.row {m:Nat}{E0 E:World}{N n e sz:Nat}{v:Value}{xs:List Value}(H:Zk m E0 E)(hr:E0.ownsRow N e sz v n xs):E.ownsRow N e sz v n xs:=ZP hr fun b hb=>H.bl b (by rw[←H.sz];exact(World.ownsRow.lt hr b hb).2)
def On (E E':World):Prop:=E.heap.size≤E'.heap.size∧∀b,b<E.heap.size→E'.heap[b]? =E.heap[b]?
theorem On.of {E E':World}{B:Nat}(h:Below B E E')(hB:E.heap.size≤B):On E E':=⟨h.size,fun b hb=>h.block b (by omega)⟩
theorem On.trans {a b c:World}(h:On a b)(k:On b c):On a c:=⟨Qhs h.1 k.1,fun x hx=>(k.2 x (Qhx hx h.1)).trans (h.2 x hx)⟩
theorem On.refl (a:World):On a a:=⟨Qhq _,fun _ _=>rfl⟩
theorem Zk.on {m:Nat}{E0 E E':World}(H:Zk m E0 E)(h:On E E'):Zk m E0 E':=⟨H.sz,Qhs H.le h.1,fun b hb=>(h.2 b (Qhx hb H.le)).trans (H.bl b hb)⟩
theorem Zk.ch {m:Nat}{S:Nat→Prop}{E0 E E':World}(H:Zk m E0 E)(h:ChO S E E')(hS:∀k,S k→m≤k):Zk m E0 E':=⟨H.sz,Qhs H.le h.size,fun b hb=>(h.block b (Qhx hb H.le) (fun e=>by have:=hS b e;omega)).trans (H.bl b hb)⟩
theorem Jd {E E':World}{b t:Nat}{cs:List Value}(h:Blk E b cs t)(ho:On E E'):Blk E' b cs t:=h.same (ho.2 b h.lt)
theorem _root_.Go.Proofs.YtcpnkpogebjieaaGreat.Q5.on {E E':World}{B:Nat}{y:Hp}(h:Q5 E B y)(ho:On E E'):Q5 E' B y:=h.same fun b hb=>ho.2 b (h.rows_lt b hb).2
end Co
namespace Co
open Go.Conc Go.ConcN Go.RowKit Go.Conc.Lib Go.ConcR.Gen
section
variable {X X' X0:Nat→Bool} {w w' w0 w1 w1':World}
theorem Qdm {b t:Nat}{c:Value}{cs:List Value}(h:Blk (emW X w) b (c::cs) t):X b=false∧Blk w b (c::cs) t:=by
 cases hx:X b with
 |false=>
  refine⟨rfl,?_⟩
  unfold Blk at *
  rw[Z7 hx]at h
  exact h
 |true=>
  unfold Blk at h
  rw[Q7]at h
  cases ho:w.heap[b]? with
  |none=>rw[ho]at h;cases h
  |some ob=>
   rw[ho]at h
   cases ob<;>simp[emO,hx]at h
theorem O0 (h:On w w'):On (emW X w) (emW X w'):=⟨by rw[QD,QD];exact h.1,fun b hb=>by
 rw[QD]at hb
 rw[Q7,Q7,h.2 b hb]⟩
theorem Qfi (hs:w.heap.size≤w'.heap.size)(h:∀b,b<w.heap.size→w'.heap[b]? =w.heap[b]? ∧X' b=X b):On (emW X w) (emW X' w'):=⟨by rw[QD,QD];exact hs,fun b hb=>by
 rw[QD]at hb
 have e:emO X' b=emO X b:=by
  funext o
  unfold emO
  rw[(h b hb).2]
 rw[Q7,Q7,(h b hb).1,e]⟩
theorem KM (hE:Em X w1 w1'):On w1' (emW X w1):=⟨by rw[QD,hE.size];exact Qhq _,fun b _=>by rw[Q7,hE.heap b]⟩
theorem O1 (t:Tape)(d:Nat):On (emW X w) {emW X w with tape:=t,drawn:=d}:=⟨Qhq _,fun _ _=>rfl⟩
structure LA (X0:Nat→Bool) (w0:World) (X:Nat→Bool) (w:World):Prop where
 old:∀b,b<w0.heap.size→w.heap[b]? =w0.heap[b]? ∧X b=X0 b
 big:w0.heap.size≤w.heap.size
 sn:Sn X w
 oo:OO w w0
theorem LA.rely (I:LA X0 w0 X w)(r:AtRel w w1):LA X0 w0 X w1:=by
 obtain⟨d,rfl⟩:=r
 exact⟨I.old,I.big,I.sn.at d,I.oo⟩
theorem LA.piece {N:Nat}{u:World}(I:LA X0 w0 X w)(hN:N=w0.heap.size)(hu:u.heap=(emW X w).heap)(huo:OO u w)(hE:Em X w1 w1')(hS:Sn X w1)(hK:Qy X w w1)(hB:Below N u w1'):LA X0 w0 X w1:=by
 subst hN
 exact⟨fun b hb=>⟨(Y5 hu hE hK (hB.block b hb)).trans (I.old b hb).1,(I.old b hb).2⟩,Qhs I.big hK.size,hS,OO.trans (OO.trans ⟨hE.os.symm,hE.out.symm⟩ ⟨hB.os,hB.output⟩) (huo.trans I.oo)⟩
structure LS (X0:Nat→Bool) (w0:World) (X:Nat→Bool) (P:World→Prop) (w:World):Prop where
 la:LA X0 w0 X w
 st:∀E E',On E E'→P E→P E'
 p:P (emW X w)
theorem LS.rely {P:World→Prop}(I:LS X0 w0 X P w)(r:AtRel w w1):LS X0 w0 X P w1:=by
 refine⟨I.la.rely r,I.st,I.st _ _ ?_ I.p⟩
 obtain⟨d,rfl⟩:=r
 exact O0 ⟨Qhq _,fun _ _=>rfl⟩
structure LT (X0:Nat→Bool) (w0:World) (X:Nat→Bool) (P:World→Prop) (m bq:Nat) (cl:List Value) (w:World):Prop where
 la:LA X0 w0 X w
 st:∀E E',On E E'→P E→P E'
 pre:∃w2,P (emW X w2)∧On w2 w∧w2.heap.size≤bq∧m≤w2.heap.size
 k:Blk w bq cl 27
 xb:X bq=false
 nb:w0.heap.size≤bq
theorem LT.rely {P:World→Prop}{m bq:Nat}{cl:List Value}(I:LT X0 w0 X P m bq cl w)(r:AtRel w w1):LT X0 w0 X P m bq cl w1:=by
 obtain⟨w2,h1,h2,h3⟩:=I.pre
 refine⟨I.la.rely r,I.st,⟨w2,h1,?_,h3⟩,?_,I.xb,I.nb⟩
 ·obtain⟨d,rfl⟩:=r;exact h2
 ·obtain⟨d,rfl⟩:=r;exact I.k
theorem LS.alloc {P:World→Prop}{m:Nat}(I:LS X0 w0 X P w)(hm:m≤w.heap.size):LT X0 w0 X P m w.heap.size [.slice none 0 0,.slice none 0 0,.slice none 0 0,.slice none 0 0] (w.alloc (Qhr #[Qhp none 0 0,Qhp none 0 0,Qhp none 0 0,Qhp none 0 0] 27)):=by
 refine⟨⟨fun b hb=>⟨(Below.heap_alloc w _ b (Qhx hb I.la.big)).trans (I.la.old b hb).1,(I.la.old b hb).2⟩,by have:=I.la.big;simp;omega,I.la.sn.alloc _ _,I.la.oo⟩,I.st,⟨w,I.p,⟨by simp,fun b hb=>Below.heap_alloc w _ b hb⟩,Qhq _,hm⟩,Blk.new w [Qhp none 0 0,Qhp none 0 0,Qhp none 0 0,Qhp none 0 0] 27,I.la.sn.out (Qhq _),I.la.big⟩
theorem LT.box {P:World→Prop}{m bq:Nat}{cl cl':List Value}(I:LT X0 w0 X P m bq cl w)(hb:Blk w1 bq cl' 27)(hs:w1.heap.size=w.heap.size)(ho:∀b,b≠bq→w1.heap[b]? =w.heap[b]?)(hoo:OO w1 w):LT X0 w0 X P m bq cl' w1:=by
 have nb:=I.nb
 obtain⟨w2,h1,h2,h3,h4⟩:=I.pre
 refine⟨⟨fun b hb'=>⟨(ho b (by omega)).trans (I.la.old b hb').1,(I.la.old b hb').2⟩,by rw[hs];exact I.la.big,?_,hoo.trans I.la.oo⟩,I.st,⟨w2,h1,⟨by rw[hs];exact h2.1,fun b hb'=>(ho b (by omega)).trans (h2.2 b hb')⟩,h3,h4⟩,hb,I.xb,nb⟩
 refine I.la.sn.turn (by omega) (fun r hr=>ho r fun e=>?_) fun r o hr ho'=>?_
 ·rw[e,I.xb]at hr;cases hr
 ·by_cases e:r=bq
  ·subst e
   unfold Blk at hb
   rw[hb]at ho'
   exact .inr (.inl ⟨_,_,_,(Option.some.inj ho').symm⟩)
  ·rw[ho r e]at ho';exact .inl ho'
theorem LT.done {P:World→Prop}{m bq:Nat}{cl:List Value}(I:LT X0 w0 X P m bq cl w):P (emW X w)∧Blk (emW X w) bq cl 27∧m≤bq:=by
 obtain⟨w2,h1,h2,h3,h4⟩:=I.pre
 refine⟨I.st _ _ (O0 h2) h1,?_,by omega⟩
 unfold Blk
 rw[Z7 I.xb]
 exact I.k
theorem LS.mc {P:World→Prop}{h y:Hp}{v:Value}(I:LS X0 w0 X P w)(o:Uq h X w X' y v w'):LS X0 w0 X' P w':=by
 have big:=I.la.big
 refine⟨⟨fun b hb=>⟨((o.old b (by omega)).1).trans (I.la.old b hb).1,((o.old b (by omega)).2).trans (I.la.old b hb).2⟩,Qhs big o.big,o.sn,o.oo.trans I.la.oo⟩,I.st,I.st _ _ (Qfi o.big o.old) I.p⟩
end
end Co
section
open Go.RowKit
theorem Qg3 (a b:Option Addr)(n m ca cb:Nat)(xs ys:List Int)(w:World)(hn:xs.length=n)(hm:ys.length=m)(hx:Qk w a xs)(hy:Qk w b ys)(hn1:n≤maxLen)(hm1:m≤maxLen):
 Calls Cut.prog 11 #[.slice a n ca,.slice b m cb] w fun e w'=>e=.returned (.bool (decide (xs=ys)))∧Below w.heap.size w w':=by
 unfold maxLen at hn1 hm1
 by_cases hl:n=m
 ·subst hl
  go_enter (Cut.func_of Tryz.func11 rfl),Tryz.ntmps11
  go_wp2
  go_loopw [5] (fun i wr=>∃k:Nat,k≤n∧i=.int .i64 k∧xs.take k=ys.take k∧Below w.heap.size w wr) (fun i _=>n-(intOf i).toNat)
  case atStart=>exact⟨0,Qht _,rfl,rfl,Below.refl _ _⟩
  case round=>
   obtain⟨k,hk,rfl,htk,hb⟩:=hrel
   have HT:Hid (xs.take k=ys.take k):=htk
   clear htk
   by_cases hlt:k<n
   ·have hkx:k<xs.length:=by omega
    have hky:k<ys.length:=by omega
    obtain⟨b1,o1,rfl,hb1,c1⟩:=hx.get hkx
    obtain⟨b2,o2,rfl,hb2,c2⟩:=hy.get hky
    have d1:=(hb.cell (p:=⟨b1,o1+k,none⟩) hb1).trans c1
    have d2:=(hb.cell (p:=⟨b2,o2+k,none⟩) hb2).trans c2
    have hi1:(k:Int)<(n:Int):=by omega
    clear c1 c2
    go_wp2_with fail
    go_quiet (fail)
    by_cases he:xs[k]=ys[k]
    ·have hne:(xs[k]!=ys[k])=false:=by simp[he]
     have HE:Hid (xs[k]=ys[k]):=he
     clear he
     go_wp2
     go_roundw
     case rel=>exact⟨k+1,by omega,by go_num,QgF HT.out hkx hky HE.out,ZV hb _⟩
     case measure=>simp[intOf];omega
    ·have hne:(xs[k]!=ys[k])=true:=by simp[he]
     go_wp2
     go_ret
     exact⟨by simp[QeY hkx hky he],ZV hb _⟩
   ·go_wp2
    go_ret
    exact⟨by simp[QgD HT.out (by omega) (by omega)],hb⟩
 ·have hne:((n:Int)!=(m:Int))=true:=by simp;omega
  go_enter (Cut.func_of Tryz.func11 rfl),Tryz.ntmps11
  go_wp2
  go_ret
  have:xs≠ys:=fun e=>hl (by rw[←hn,←hm,e])
  exact⟨by simp[this],Below.refl _ _⟩
theorem Qfa {xs:List Int}{n:Int}{k:Nat}(h:∀i (hi:i<xs.length),i<k→xs[i]≠n)(hk:xs.length≤k):n∉xs:=fun hm=>by
 obtain⟨i,hi,e⟩:=List.getElem_of_mem hm
 exact h i hi (by omega) e
theorem YS (a:Option Addr)(m ca:Nat)(n:Int)(xs:List Int)(w:World)(hm:xs.length=m)(hx:Qk w a xs)(hm1:m≤maxLen):
 Calls Cut.prog 16 #[.slice a m ca,.int .i64 n] w fun e w'=>e=.returned (.bool (decide (n∈xs)))∧w'=w:=by
 unfold maxLen at hm1
 go_enter (Cut.func_of Tryz.func16 rfl),Tryz.ntmps16
 go_wp2
 go_loopw [5] (fun i wr=>∃k:Nat,k≤m∧i=.int .i64 k∧(∀i (hi:i<xs.length),i<k→xs[i]≠n)∧wr=w) (fun i _=>m-(intOf i).toNat)
 case atStart=>exact⟨0,Qht _,rfl,fun i _ h=>by omega,rfl⟩
 case round=>
  obtain⟨k,hk,rfl,htk,rfl⟩:=hrel
  have HT:Hid (∀i (hi:i<xs.length),i<k→xs[i]≠n):=htk
  clear htk
  by_cases hlt:k<m
  ·have hkx:k<xs.length:=by omega
   obtain⟨b1,o1,rfl,hb1,d1⟩:=hx.get hkx
   have hi1:(k:Int)<(m:Int):=by omega
   by_cases he:xs[k]=n
   ·have hne:(xs[k]==n)=true:=by simp[he]
    have HE:Hid (n∈xs):=by
     show n∈xs
     rw[←he];exact List.getElem_mem hkx
    clear he
    go_wp2
    go_ret
    exact⟨by simp[HE.out],rfl⟩
   ·have hne:(xs[k]==n)=false:=by simp[he]
    have HE:Hid (xs[k]≠n):=he
    clear he
    go_wp2
    go_roundw
    case rel=>
     refine⟨k+1,by omega,by go_num,fun i hi hik=>?_,trivial⟩
     by_cases e:i=k
     ·subst e;exact HE.out
     ·exact HT.out i hi (by omega)
    case measure=>simp[intOf];omega
  ·go_wp2
   go_ret
   exact⟨by simp[Qfa HT.out (by omega)],rfl⟩
theorem Qa3 (a b:Option Addr)(ca cb:Nat)(xs:List (Int×Int))(w:World)(hx:QE w a xs)(hy:QE w b xs)(hn:xs.length≤1048576):
 Calls Cut.prog 40 #[.slice a xs.length ca,.slice b xs.length cb] w fun e w'=>e=.returned (.bool true)∧Below w.heap.size w w':=by
 go_enter (Cut.func_of Tryz.func40 rfl),Tryz.ntmps40
 go_wp2
 go_loopw [5] (fun i wr=>∃k:Nat,k≤xs.length∧i=.int .i64 k∧Below w.heap.size w wr) (fun i _=>xs.length-(intOf i).toNat)
 case atStart=>exact⟨0,Qht _,rfl,Below.refl _ _⟩
 case round=>
  obtain⟨k,hk,rfl,hb⟩:=hrel
  by_cases hlt:k<xs.length
  ·obtain⟨b1,o1,rfl,hb1,c1,c2⟩:=hx.get hlt
   obtain⟨b2,o2,rfl,hb2,c3,c4⟩:=hy.get hlt
   have d1:=(hb.cell (p:=⟨b1,o1+k*2,none⟩) hb1).trans c1
   have d2:=(hb.cell (p:=⟨b1,o1+k*2+1,none⟩) hb1).trans c2
   have d3:=(hb.cell (p:=⟨b2,o2+k*2,none⟩) hb2).trans c3
   have d4:=(hb.cell (p:=⟨b2,o2+k*2+1,none⟩) hb2).trans c4
   have hi1:(k:Int)<(xs.length:Int):=by omega
   clear c1 c2 c3 c4
   go_wp2_with fail
   go_region
   all_goals
    go_wp2
    go_roundw
    case rel=>exact⟨k+1,by omega,by go_num,ZV hb _⟩
    case measure=>simp[intOf];omega
  ·go_wp2
   go_ret
   exact⟨rfl,hb⟩
theorem Qg4 (a b:Option Addr)(ca cb:Nat)(xs:List Int)(w:World)(hx:Qk w a xs)(hy:Qk w b xs)(hn:xs.length≤1048576):
 Calls Cut.prog 11 #[.slice a xs.length ca,.slice b xs.length cb] w fun e w'=>e=.returned (.bool true)∧∃n,w'=w.drewN n:=by
 go_enter (Cut.func_of Tryz.func11 rfl),Tryz.ntmps11
 go_wp2
 go_loopw [5] (fun i wr=>∃k n:Nat,k≤xs.length∧i=.int .i64 k∧wr=w.drewN n) (fun i _=>xs.length-(intOf i).toNat)
 case atStart=>exact⟨0,0,Qht _,rfl,rfl⟩
 case round=>
  obtain⟨k,n,hk,rfl,rfl⟩:=hrel
  by_cases hlt:k<xs.length
  ·obtain⟨b1,o1,rfl,hb1,c1⟩:=hx.get hlt
   obtain⟨b2,o2,rfl,hb2,c2⟩:=hy.get hlt
   have hi1:(k:Int)<(xs.length:Int):=by omega
   have hne:(xs[k]!=xs[k])=false:=by simp
   go_wp2_with fail
   go_quiet (fail)
   go_wp2
   go_roundw
   case rel=>exact⟨k+1,_,by omega,by go_num,rfl⟩
   case measure=>simp[intOf];omega
  ·go_wp2
   go_ret
   exact⟨rfl,_,rfl⟩
theorem Qa1 (g h:Hp)(w:World)(hp:g.p=h.p)(hg:Qg w g)(hh:Qg w h)(hs:Zl g):
 Calls Cut.prog 10 #[g.v,h.v] w fun e w'=>e=.returned (.bool true)∧Below w.heap.size w w':=by
 obtain⟨oa,ocap,os,ra,rcap,rs,wa,wcap,ws,da,dcap,ds⟩:=g
 obtain⟨oa2,ocap2,os2,ra2,rcap2,rs2,wa2,wcap2,ws2,da2,dcap2,ds2⟩:=h
 obtain⟨ho,hr,hw,hd⟩:=hg
 obtain⟨ho2,hr2,hw2,hd2⟩:=hh
 obtain⟨so,soo,sr,sw,sd⟩:=hs
 simp only[Hp.p,Prod.mk.injEq]at hp
 obtain⟨e1,e2,e3,e4⟩:=hp
 dsimp only at *
 subst e2 e3 e4
 have el:os2.length=os.length:=by have:=congrArg List.length e1;simpa using this.symm
 have HO:Hid (∀i (hi:i<os.length) (hi2:i<os2.length),os2[i].k=os[i].k∧os2[i].t=os[i].t∧os2[i].r=os[i].r):=fun i hi hi2=>by
  have e5:(os.map Ob.p)[i]? =(os2.map Ob.p)[i]? :=by rw[e1]
  rw[List.getElem?_map,List.getElem?_map,Qhy hi,Qhy hi2]at e5
  simp only[Option.map_some,Option.some.injEq,Ob.p,Prod.mk.injEq]at e5
  exact⟨e5.1.symm,e5.2.1.symm,e5.2.2.symm⟩
 have HEL:Hid (os2.length=os.length):=el
 simp only[Hp.v]
 rw[el]
 clear e1 el
 have hA0:Below w.heap.size w (w.alloc (Qhr #[Qhp oa os.length ocap,Qhp ra rs.length rcap,Qhp wa ws.length wcap,Qhp da ds.length dcap] 27)):=(Below.refl _ _).alloc (Qhq _) _
 have hA:Below w.heap.size w ((w.alloc (Qhr #[Qhp oa os.length ocap,Qhp ra rs.length rcap,Qhp wa ws.length wcap,Qhp da ds.length dcap] 27)).alloc (Qhr #[Qhp oa2 os.length ocap2,Qhp ra2 rs.length rcap2,Qhp wa2 ws.length wcap2,Qhp da2 ds.length dcap2] 27)):=hA0.alloc (by simp) _
 have K1:=(Blk.new w [Qhp oa os.length ocap,Qhp ra rs.length rcap,Qhp wa ws.length wcap,Qhp da ds.length dcap] 27).alloc (Qhr #[Qhp oa2 os.length ocap2,Qhp ra2 rs.length rcap2,Qhp wa2 ws.length wcap2,Qhp da2 ds.length dcap2] 27)
 have K2:Blk ((w.alloc (Qhr #[Qhp oa os.length ocap,Qhp ra rs.length rcap,Qhp wa ws.length wcap,Qhp da ds.length dcap] 27)).alloc (Qhr #[Qhp oa2 os.length ocap2,Qhp ra2 rs.length rcap2,Qhp wa2 ws.length wcap2,Qhp da2 ds.length dcap2] 27)) (w.heap.size+1) [Qhp oa2 os.length ocap2,Qhp ra2 rs.length rcap2,Qhp wa2 ws.length wcap2,Qhp da2 ds.length dcap2] 27:=by
  have:=Blk.new (w.alloc (Qhr #[Qhp oa os.length ocap,Qhp ra rs.length rcap,Qhp wa ws.length wcap,Qhp da ds.length dcap] 27)) [Qhp oa2 os.length ocap2,Qhp ra2 rs.length rcap2,Qhp wa2 ws.length wcap2,Qhp da2 ds.length dcap2] 27
  rw[World.size_alloc]at this
  exact this
 go_enter (Cut.func_of Tryz.func10 rfl),Tryz.ntmps10
 go_wp2_with fail
 generalize (w.alloc (Qhr #[Qhp oa os.length ocap,Qhp ra rs.length rcap,Qhp wa ws.length wcap,Qhp da ds.length dcap] 27)).alloc (Qhr #[Qhp oa2 os.length ocap2,Qhp ra2 rs.length rcap2,Qhp wa2 ws.length wcap2,Qhp da2 ds.length dcap2] 27)=w0 at *
 have hN:=hA.size
 have c1:=Qg3 ra ra2 rs.length rs.length rcap rcap2 rs rs w0 rfl rfl (hr.below hA (Qhq _)) (hr2.below hA (Qhq _)) (by unfold maxLen;omega) (by unfold maxLen;omega)
 simp only[decide_true]at c1
 refine c1.mono ?_
 rintro e w1 ⟨rfl,hb1⟩
 have B1:=hA.trans (hb1.mono hA.size)
 have K11:=K1.below hb1 K1.lt
 have K21:=K2.below hb1 K2.lt
 obtain⟨x0,x1,x2,x3⟩:=QB (h:=⟨oa,ocap,os,ra,rcap,rs,wa,wcap,ws,da,dcap,ds⟩) K11
 obtain⟨y0,y1,y2,y3⟩:=Qc K21
 have c2:=Qa3 wa wa2 wcap wcap2 ws w1 (hw.below B1 (Qhq _)) (hw2.below B1 (Qhq _)) sw
 clear c1 hb1 K1 K2 hA hA0 hr hr2
 go_wp2_with fail
 refine c2.mono ?_
 rintro e w2 ⟨rfl,hb2⟩
 have B2:=B1.trans (hb2.mono B1.size)
 have K12:=K11.below hb2 K11.lt
 have K22:=K21.below hb2 K21.lt
 clear x0 x1 x2 x3 y0 y1 y2 y3
 obtain⟨x0,x1,x2,x3⟩:=QB (h:=⟨oa,ocap,os,ra,rcap,rs,wa,wcap,ws,da,dcap,ds⟩) K12
 obtain⟨y0,y1,y2,y3⟩:=Qc K22
 have c3:=Qa3 da da2 dcap dcap2 ds w2 (hd.below B2 (Qhq _)) (hd2.below B2 (Qhq _)) sd
 clear c2 hb2 K11 K21 B1 hw hw2
 go_wp2_with fail
 refine c3.mono ?_
 rintro e w3 ⟨rfl,hb3⟩
 have B3:=B2.trans (hb3.mono B2.size)
 have K13:=K12.below hb3 K12.lt
 have K23:=K22.below hb3 K22.lt
 clear c3 hb3 K12 K22 B2 hd hd2 x0 x1 x2 x3 y0 y1 y2 y3
 go_wp2
 go_loopw [5] (fun i wr=>∃k:Nat,k≤os.length∧i=.int .i64 k∧Below w3.heap.size w3 wr) (fun i _=>os.length-(intOf i).toNat)
 case atStart=>exact⟨0,Qht _,rfl,Below.refl _ _⟩
 case round=>
  obtain⟨k,hk,rfl,hb⟩:=hrel
  have Bw:=B3.trans (hb.mono B3.size)
  have K14:=K13.below hb K13.lt
  have K24:=K23.below hb K23.lt
  obtain⟨x0,-,-,-⟩:=Qc K14
  obtain⟨y0,-,-,-⟩:=Qc K24
  by_cases hlt:k<os.length
  ·have hlt2:k<os2.length:=by rw[HEL.out];exact hlt
   obtain⟨q1,q2,q3⟩:=HO.out k hlt hlt2
   obtain⟨b1,o1,ea,hb1,c1,c2,c3⟩:=ho.get hlt
   obtain⟨b2,o2,eb,hb2,c4,c5,c6⟩:=ho2.get hlt2
   have r1:=ho.2 k hlt
   have r2:=ho2.2 k hlt2
   rw[q1]at c4
   rw[q2]at c5
   rw[q3]at c6 r2
   have d1:=(Bw.cell (p:=⟨b1,o1+k*3,none⟩) hb1).trans c1
   have d2:=(Bw.cell (p:=⟨b1,o1+k*3+1,none⟩) hb1).trans c2
   have d3:=(Bw.cell (p:=⟨b1,o1+k*3+2,none⟩) hb1).trans c3
   have d4:=(Bw.cell (p:=⟨b2,o2+k*3,none⟩) hb2).trans c4
   have d5:=(Bw.cell (p:=⟨b2,o2+k*3+1,none⟩) hb2).trans c5
   have d6:=(Bw.cell (p:=⟨b2,o2+k*3+2,none⟩) hb2).trans c6
   have hi1:(k:Int)<(os.length:Int):=by omega
   have sl:=soo k hlt
   have HA1:Hid (∀m,Calls Cut.prog 11 #[.slice os[k].ra os[k].r.length os[k].rcap,.slice os2[k].ra os[k].r.length os2[k].rcap] (wr.drewN m) fun e w'=>e=.returned (.bool true)∧∃n,w'=wr.drewN n):=fun m=>by
    refine(Qg4 os[k].ra os2[k].ra os[k].rcap os2[k].rcap os[k].r (wr.drewN m) (r1.below (ZV Bw m) (Qhq _)) (r2.below (ZV Bw m) (Qhq _)) sl).mono ?_
    rintro e w' ⟨rfl,n,rfl⟩
    exact⟨rfl,m+n,by simp⟩
   have hne:(os[k].k !=os[k].k)=false:=by simp
   subst ea eb
   clear c1 c2 c3 c4 c5 c6 q1 q2 q3 r1 r2
   go_wp2_with fail
   go_quiet ((go_at_call 11;exact HA1.out _))
   go_wp2
   go_roundw
   case rel=>exact⟨k+1,by omega,by go_num,ZV hb _⟩
   case measure=>simp[intOf];omega
  ·have hkf:decide ((k:Int)<(os.length:Int))=false:=decide_eq_false (by omega)
   go_wp2
   go_ret
   exact⟨rfl,B3.trans (hb.mono B3.size)⟩
end
end Go.Proofs.YtcpnkpogebjieaaGreat
