/- Goroutine 0 in company: the loop of dueOf that starts the tellers. -/
import Derived.Test.YtcpnkpogebjieaaGreatG19Zv
import Derived.Test.YtcpnkpogebjieaaGreatG08Za
import Derived.Test.YtcpnkpogebjieaaGreatG09Zw
import Derived.Test.YtcpnkpogebjieaaGreatG18Ye
import Derived.Test.YtcpnkpogebjieaaGreatG10Yc
import Derived.Test.YtcpnkpogebjieaaGreatG16Ss3
import Derived.Test.YtcpnkpogebjieaaGreatG17Si3
open List renaming mem_cons_self→Qhp,getElem?_toArray→Qhr,getElem?_cons_zero→Qhs,getElem?_cons_succ→Qht,map_cons→Qhv,mem_cons_of_mem→Qhx
open Go.Obj renaming cells→Qhq
open Nat renaming le_refl→Qhu
open Array renaming getElem?_eq_getElem→Qhw,getD_eq_getD_getElem?→Qhy
set_option maxRecDepth 100000
set_option maxHeartbeats 4000000
namespace Go.Proofs.YtcpnkpogebjieaaGreat
namespace Co
open Go.Conc Go.ConcN Go.RowKit Go.Conc.Lib Go.ConcR.Gen Go.ConcN.Gen
open Go.ConcR (KK wgBlock WgAt stA smA rd wr mk Payload Aside2 DC0 ofEvent_cell)
set_option linter.unusedSimpArgs false
noncomputable def Z6:Code:=match Tryz.f81.body with
 |some (.seq _ (.seq _ (.seq _ (.seq _ (.seq _ (.seq (.seq _ (.block _ (.loop b))) _))))))=>b
 |_=>.skip
noncomputable def J2:Code:=match Tryz.f81.body with
 |some (.seq _ (.seq _ (.seq _ (.seq _ (.seq _ (.seq (.seq _ (.block _ (.loop _))) e))))))=>e
 |_=>.skip
theorem Ut (T:Array Value)(h:T.size=40):∃v0 v1 v2 v3 v4 v5 v6 v7 v8 v9 v10 v11 v12 v13 v14 v15 v16 v17 v18 v19 v20 v21 v22 v23 v24 v25 v26 v27 v28 v29 v30 v31 v32 v33 v34 v35 v36 v37 v38 v39,T=#[v0,v1,v2,v3,v4,v5,v6,v7,v8,v9,v10,v11,v12,v13,v14,v15,v16,v17,v18,v19,v20,v21,v22,v23,v24,v25,v26,v27,v28,v29,v30,v31,v32,v33,v34,v35,v36,v37,v38,v39]:=by
 obtain⟨l⟩:=T
 simp only[List.size_toArray]at h
 rcases l with _|⟨v0,l⟩
 ·simp at h
 rcases l with _|⟨v1,l⟩
 ·simp at h
 rcases l with _|⟨v2,l⟩
 ·simp at h
 rcases l with _|⟨v3,l⟩
 ·simp at h
 rcases l with _|⟨v4,l⟩
 ·simp at h
 rcases l with _|⟨v5,l⟩
 ·simp at h
 rcases l with _|⟨v6,l⟩
 ·simp at h
 rcases l with _|⟨v7,l⟩
 ·simp at h
 rcases l with _|⟨v8,l⟩
 ·simp at h
 rcases l with _|⟨v9,l⟩
 ·simp at h
 rcases l with _|⟨v10,l⟩
 ·simp at h
 rcases l with _|⟨v11,l⟩
 ·simp at h
 rcases l with _|⟨v12,l⟩
 ·simp at h
 rcases l with _|⟨v13,l⟩
 ·simp at h
 rcases l with _|⟨v14,l⟩
 ·simp at h
 rcases l with _|⟨v15,l⟩
 ·simp at h
 rcases l with _|⟨v16,l⟩
 ·simp at h
 rcases l with _|⟨v17,l⟩
 ·simp at h
 rcases l with _|⟨v18,l⟩
 ·simp at h
 rcases l with _|⟨v19,l⟩
 ·simp at h
 rcases l with _|⟨v20,l⟩
 ·simp at h
 rcases l with _|⟨v21,l⟩
 ·simp at h
 rcases l with _|⟨v22,l⟩
 ·simp at h
 rcases l with _|⟨v23,l⟩
 ·simp at h
 rcases l with _|⟨v24,l⟩
 ·simp at h
 rcases l with _|⟨v25,l⟩
 ·simp at h
 rcases l with _|⟨v26,l⟩
 ·simp at h
 rcases l with _|⟨v27,l⟩
 ·simp at h
 rcases l with _|⟨v28,l⟩
 ·simp at h
 rcases l with _|⟨v29,l⟩
 ·simp at h
 rcases l with _|⟨v30,l⟩
 ·simp at h
 rcases l with _|⟨v31,l⟩
 ·simp at h
 rcases l with _|⟨v32,l⟩
 ·simp at h
 rcases l with _|⟨v33,l⟩
 ·simp at h
 rcases l with _|⟨v34,l⟩
 ·simp at h
 rcases l with _|⟨v35,l⟩
 ·simp at h
 rcases l with _|⟨v36,l⟩
 ·simp at h
 rcases l with _|⟨v37,l⟩
 ·simp at h
 rcases l with _|⟨v38,l⟩
 ·simp at h
 rcases l with _|⟨v39,l⟩
 ·simp at h
 obtain rfl:l=[]:=by
  cases l with
  |nil=>rfl
  |cons=>simp at h
 exact⟨v0,v1,v2,v3,v4,v5,v6,v7,v8,v9,v10,v11,v12,v13,v14,v15,v16,v17,v18,v19,v20,v21,v22,v23,v24,v25,v26,v27,v28,v29,v30,v31,v32,v33,v34,v35,v36,v37,v38,v39,rfl⟩
structure DH (Wg bh bw bt:Nat) (xa:Option Addr) (n xcap:Nat) (i:Nat) (T:Array Value):Prop where
 sz:T.size=40
 t1:T[1]? =some (.pointer (some ⟨bh,0,none⟩))
 t4:T[4]? =some (.pointer (some ⟨bw,0,none⟩))
 t5:T[5]? =some (.pointer (some ⟨bt,0,none⟩))
 t6:T[6]? =some (.pointer (some ⟨Wg,0,none⟩))
 t20:T[20]? =some (.slice xa n xcap)
 t21:T[21]? =some (.int .i64 n)
 t22:T[22]? =some (.int .i64 i)
structure CF (S:Ph) (w0:World) (own:List Nat) (w:World):Prop where
 low:∀b,b<S.Low→b≠S.Wg→b≠S.Ch→w.heap[b]? =w0.heap[b]?
 live:WgLive S.ty S.Wg w
 owk:∀b,b∈own→b<w.heap.size
theorem CF.rely {S:Ph}{w0:World}{own:List Nat}{w w1:World}(h:CF S w0 own w)(r:RK S own w w1):CF S w0 own w1:=
 ⟨fun b h1 h2 h3=>(r.low b h1 h2 h3).trans (h.low b h1 h2 h3),r.live h.live,fun b hb=>by
   have:=r.own b hb
   rw[Qhw (h.owk b hb)]at this
   exact(Array.getElem?_eq_some_iff.1 this).1⟩
theorem CF.cell {S:Ph}{w0:World}{own:List Nat}{w:World}(h:CF S w0 own w){b:Nat}(hb:Okb S b)(o:Nat):w.cell? ⟨b,o,none⟩=w0.cell? ⟨b,o,none⟩:=cell_of_block (h.low b hb.1 hb.2.1 hb.2.2.1) o
theorem CF.lt {S:Ph}{w0:World}{own:List Nat}{w:World}(hbig:S.Low≤w0.heap.size)(h:CF S w0 own w){b:Nat}(hb:(b<S.Low∧b≠S.Wg∧b≠S.Ch)∨b=S.Wg):b<w.heap.size:=by
 rcases hb with⟨h1,h2,h3⟩|rfl
 ·have:=h.low b h1 h2 h3
  rw[Qhw (show b<w0.heap.size by omega)]at this
  exact(Array.getElem?_eq_some_iff.1 this).1
 ·obtain⟨st,sm,hl⟩:=h.live
  exact(Array.getElem?_eq_some_iff.1 hl).1
structure CX (S:Ph) (w0:World) (own:List Nat) (bp:Nat) (p:Int) (w:World):Prop where
 low:∀b,b<S.Low→b≠S.Wg→b≠S.Ch→w.heap[b]? =w0.heap[b]?
 live:WgLive S.ty S.Wg w
 owk:∀b,b∈own→b<w.heap.size
 bk:w.heap[bp]? =some (.cells #[.int .i64 p] 3)
 ne:∀b,(b<S.Low∧b≠S.Wg∧b≠S.Ch)∨b=S.Wg→b≠bp
 ns:¬S.SB bp
 ni:bp∉own
section
variable {S:Ph} {w0:World} {own:List Nat} {bp:Nat} {p:Int} {w w1:World}
theorem CX.rely (h:CX S w0 own bp p w)(r:RK S (bp::own) w w1):CX S w0 own bp p w1:=
 ⟨fun b h1 h2 h3=>(r.low b h1 h2 h3).trans (h.low b h1 h2 h3),r.live h.live,fun b hb=>by
   have:=r.own b (Qhx _ hb)
   rw[Qhw (h.owk b hb)]at this
   exact(Array.getElem?_eq_some_iff.1 this).1,(r.own bp Qhp).trans h.bk,h.ne,h.ns,h.ni⟩
theorem CX.cell (h:CX S w0 own bp p w){b:Nat}(hb:Okb S b)(o:Nat):w.cell? ⟨b,o,none⟩=w0.cell? ⟨b,o,none⟩:=cell_of_block (h.low b hb.1 hb.2.1 hb.2.2.1) o
theorem CX.c0 (h:CX S w0 own bp p w):w.cell? ⟨bp,0,none⟩=some (.int .i64 p):=by simp[World.cell?,h.bk]
theorem CX.f0 (h:CX S w0 own bp p w):w.frozen? ⟨bp,0,none⟩=false:=by simp[World.frozen?,h.bk]
theorem CX.cf (h:CX S w0 own bp p w):CF S w0 (bp::own) w:=⟨h.low,h.live,fun b hb=>by
 rcases List.mem_cons.1 hb with rfl|hb
 ·exact(Array.getElem?_eq_some_iff.1 h.bk).1
 ·exact h.owk b hb⟩
theorem CX.cf0 (h:CX S w0 own bp p w):CF S w0 own w:=⟨h.low,h.live,h.owk⟩
theorem CX.tf (h:CX S w0 own bp p w):TF S w0 bp p w:=⟨h.low,h.live,h.c0⟩
theorem CX.set {p':Int}(h:CX S w0 own bp p w):CX S w0 own bp p' (w.setCell ⟨bp,0,none⟩ (.int .i64 p')):=by
 have hb:Blk w bp [.int .i64 p] 3:=h.bk
 have hs:∀b,b≠bp→(w.setCell ⟨bp,0,none⟩ (.int .i64 p')).heap[b]? =w.heap[b]? :=fun b hb=>Below.heap_setCell _ _ _ _ hb
 exact⟨fun b h1 h2 h3=>(hs b (h.ne b (.inl ⟨h1,h2,h3⟩))).trans (h.low b h1 h2 h3),let⟨st,sm,hl⟩:=h.live;⟨st,sm,hl.of_block (hs _ (h.ne _ (.inr rfl)))⟩,fun b hb=>by have:=h.owk b hb;simpa using this,hb.store 0 (.int .i64 p'),h.ne,h.ns,h.ni⟩
theorem QgX (hx:bp∈own)(v:Value):Zc own own w (w.setCell ⟨bp,0,none⟩ v):=
 ⟨fun b _ hb=>Below.heap_setCell _ _ _ _ (fun e=>hb (e▸hx)),.inl ⟨rfl,by simp⟩,⟨rfl,rfl⟩⟩
end
structure U1 (S:Ph) (w0:World) (bh:Nat) (xa:Option Addr) (X:List Int) (oa:Option Addr) (ocap:Nat) (ks:List Int):Prop where
 ohb:Okb S bh
 hb:w0.cell? ⟨bh,0,none⟩=some (.slice oa ks.length ocap)
 sx:∀i (h:i<X.length),∃b off,xa=some ⟨b,off,none⟩∧Okb S b∧w0.cell? ⟨b,off+i,none⟩=some (.int .i64 X[i])
 so:∀i (h:i<ks.length),∃b off,oa=some ⟨b,off,none⟩∧Okb S b∧w0.cell? ⟨b,off+i*3,none⟩=some (.int .i64 ks[i])
 inr:∀i (h:i<X.length),0≤X[i]∧X[i]<(ks.length:Int)
 big:S.Low≤w0.heap.size
 nx:(X.length:Int)<1000000
 nk:(ks.length:Int)<1000000
theorem YE {S:Ph}{own:List Nat}{Stop1 Stop2:Goroutine→World→Prop}{k:Nat}:∀ {n:Nat} {g:Goroutine} {w:World},Goes S.P true (RL S.ty S.Wg) DC0 Stop1 n g w→
 (∀g' w',(∀w'',RL S.ty S.Wg w' w''→Stop1 g' w'')→RK S own w w'→Goes S.P true (RK S own) DC0 Stop2 k g' w')→Goes S.P true (RK S own) DC0 Stop2 (n+k) g w
 |0,g,w,h,hk=>by rw[Nat.zero_add];exact hk g w h (RK.refl S own w)
 |n+1,g,w,h,hk=>by
  rcases h with h|⟨hs,h⟩
  ·exact Goes.mono (hk g w h (RK.refl S own w)) (by omega)
  ·rw[show n+1+k=n+k+1 by omega]
   refine Goes.step hs fun w1 h1=>?_
   have h2:=h w1 h1.rl
   obtain⟨g',w',es,hgo,⟨rfl,rfl⟩,hg⟩:=goes_elim h2
   rw[hgo]
   exact⟨⟨rfl,rfl⟩,YE hg fun g'' w'' hs' hr=>hk g'' w'' hs' (h1.trans hr)⟩
section
variable [Payload] {S:Ph} {Anch:Goroutine→World→Prop} {s bd:Nat} {own:List Nat} {rest:List (List Value)} {pend d:Nat}
theorem Qbx (hP:S.P=Tryz.prog)(hty:S.ty=Tryz.link.tWg){c:Frame}{cs:List Frame}{k:Nat}{w:World}(hl:WgLive S.ty S.Wg w)
 (hA:∀w',RK S own w w'→Goes S.P true (RK S own) DC0 (Ym S Anch s bd own rest 1 0) k (G (c.finish (.tuple #[])) cs) w')
 (hB:∀w',RK S own w w'→Goes S.P true (RK S own) DC0 (Ym S Anch (s+1) bd own rest 1 0) k (G (c.finish (.tuple #[])) cs) w')(hW:S.Wg∉own):
 JE S Anch (s+5) bd own rest 0 0 (G (Frame.enter Tryz.prog Tryz.link.add #[.pointer (some ⟨S.Wg,0,none⟩),.int .i64 1] .normal) (c::cs)) w:=by
 have hadd:=Qbu (P:=Tryz.prog) (L:=Tryz.link) (Wg:=S.Wg) Tryz.wgLib (c:=c) (cs:=cs) w (hty▸hl)
 rw[←hP,←hty]at hadd
 rw[←hP]
 have hset:∀(w1:World) (v:Value) (st:Int),RK S own w w1→v=.int .u64 st→WgLive S.ty S.Wg w1→RK S own w (w1.setCell (stA S.Wg) v):=fun w1 v st h1 hv hl1=>by
  subst hv
  refine⟨fun b h2 h3 h4=>?_,fun b hb=>?_,fun _=>?_,h1.oo⟩
  ·rw[Below.heap_setCell _ _ _ _ (show b≠(stA S.Wg).block from h3)]
   exact h1.low b h2 h3 h4
  ·rw[Below.heap_setCell _ _ _ _ (show b≠(stA S.Wg).block from fun e=>hW (by have e':b=S.Wg:=e;rw[←e'];exact hb))]
   exact h1.own b hb
  ·obtain⟨a,b,hw⟩:=hl1
   exact⟨_,_,hw.setSt st⟩
 obtain⟨n,h⟩:=hadd
 rw[show s+5=(s+4)+1 from rfl,ZW]
 refine⟨n+0,YE h fun g1 w1 hs1 hr1=>Goes.stop fun w2 hr2=>?_⟩
 obtain⟨hrun,g2,hgo,n2,h2⟩:=hs1 w2 hr2.rl
 refine⟨hrun,.inr (.inl ⟨.disable,g2,.inl rfl,hgo,?_⟩)⟩
 rw[show s+4=(s+3)+1 from rfl,ZW]
 refine⟨n2+0,YE h2 fun g3 w3 hs3 hr3=>Goes.stop fun w4 hr4=>?_⟩
 have hr04:RK S own w w4:=(hr1.trans hr2).trans (hr3.trans hr4)
 obtain⟨hrun3,hall⟩:=hs3 w4 hr4.rl
 refine⟨hrun3,.inr (.inr (.inl ⟨rfl,fun v hv hwg=>?_⟩))⟩
 obtain⟨g5,hgo5,hz,hnz⟩:=hall v hv hwg
 refine⟨g5,hgo5,?_⟩
 have hr05:=hset w4 (.int .u64 ((v+1:Nat)*KK)) _ hr04 rfl ⟨_,_,hwg⟩
 rw[show s+3=(s+2)+1 from rfl,ZW]
 by_cases hv0:v=0
 ·obtain⟨n5,h5⟩:=hz hv0
  refine⟨n5+0,YE h5 fun g6 w6 hs6 hr6=>Goes.stop fun w7 hr7=>?_⟩
  obtain⟨hrun6,g8,hgo8,n8,h8⟩:=hs6 w7 hr7.rl
  refine⟨hrun6,.inr (.inl ⟨_,g8,.inr (.inr rfl),hgo8,?_⟩)⟩
  rw[show s+2=(s+1)+1 from rfl,ZW]
  refine⟨n8+0,YE h8 fun g9 w9 hs9 hr9=>Goes.stop fun w10 hr10=>?_⟩
  obtain⟨hrun9,g11,hgo11,n11,h11⟩:=hs9 w10 hr10.rl
  refine⟨hrun9,.inr (.inl ⟨_,g11,.inr (.inl rfl),hgo11,?_⟩)⟩
  rw[ZW]
  refine⟨n11+k,YE h11 fun g12 w12 hs12 hr12=>?_⟩
  obtain⟨rfl,_⟩:=hs12 w12 id
  exact hA w12 (((hr05.trans (hr6.trans hr7)).trans (hr9.trans hr10)).trans hr12)
 ·obtain⟨n5,h5⟩:=hnz hv0
  refine⟨n5+0,YE h5 fun g9 w9 hs9 hr9=>Goes.stop fun w10 hr10=>?_⟩
  obtain⟨hrun9,g11,hgo11,n11,h11⟩:=hs9 w10 hr10.rl
  refine⟨hrun9,.inr (.inl ⟨_,g11,.inr (.inl rfl),hgo11,?_⟩)⟩
  rw[show s+2=(s+1)+1 from rfl,ZW]
  refine⟨n11+k,YE h11 fun g12 w12 hs12 hr12=>?_⟩
  obtain⟨rfl,_⟩:=hs12 w12 id
  exact hB w12 ((hr05.trans (hr9.trans hr10)).trans hr12)
end
end Co
namespace Co
open Go.Conc Go.ConcN Go.RowKit Go.Conc.Lib Go.ConcR.Gen
open Go.ConcR (DC0 WgAt)
set_option linter.unusedSimpArgs false
structure KB (N:Nat) (w0:World) (L:List (Nat×Obj)) (w:World):Prop where
 old:∀b,b<N→w.heap[b]? =w0.heap[b]?
 big:N≤w.heap.size
 bl:∀p∈L,w.heap[p.1]? =some p.2∧N≤p.1
 nd:(L.map (·.1)).Nodup
 oo:OO w w0
section
variable {N:Nat} {w0:World} {L:List (Nat×Obj)} {w w1:World}
theorem KB.refl (w:World):KB w.heap.size w [] w:=⟨fun _ _=>rfl,Qhu _,by simp,by simp,.refl _⟩
theorem KB.rely (h:KB N w0 L w)(r:AtRel w w1):KB N w0 L w1:=by
 obtain⟨d,rfl⟩:=r
 exact⟨h.old,h.big,h.bl,h.nd,h.oo⟩
theorem KB.call (h:KB N w0 L w)(ho:∀b,b<w.heap.size→w1.heap[b]? =w.heap[b]?)(hs:w.heap.size≤w1.heap.size)(hoo:OO w1 w):KB N w0 L w1:=
 ⟨fun b hb=>(ho b (Nat.lt_of_lt_of_le hb h.big)).trans (h.old b hb),Nat.le_trans h.big hs,fun p hp=>⟨(ho p.1 (Array.getElem?_eq_some_iff.1 (h.bl p hp).1).1).trans (h.bl p hp).1,(h.bl p hp).2⟩,h.nd,hoo.trans h.oo⟩
theorem KB.alloc (h:KB N w0 L w)(o:Obj):KB N w0 ((w.heap.size,o)::L) (w.alloc o):=by
 refine⟨fun b hb=>(Below.heap_alloc w o b (Nat.lt_of_lt_of_le hb h.big)).trans (h.old b hb),by have:=h.big;simp;omega,fun p hp=>?_,?_,h.oo⟩
 ·rcases List.mem_cons.1 hp with rfl|hp
  ·exact⟨heap_alloc_new w o,h.big⟩
  ·exact⟨(Below.heap_alloc w o p.1 (Array.getElem?_eq_some_iff.1 (h.bl p hp).1).1).trans (h.bl p hp).1,(h.bl p hp).2⟩
 ·rw[Qhv,List.nodup_cons]
  refine⟨fun hm=>?_,h.nd⟩
  obtain⟨p,hp,e⟩:=List.mem_map.1 hm
  have:=(Array.getElem?_eq_some_iff.1 (h.bl p hp).1).1
  simp only at e
  omega
theorem KB.set {b:Nat}{v v':Value}{t:TypeId}(h:KB N w0 ((b,.cells #[v] t)::L) w):KB N w0 ((b,.cells #[v'] t)::L) (w.setCell ⟨b,0,none⟩ v'):=by
 have hb:=h.bl _ Qhp
 have hn:∀k,k≠b→(w.setCell ⟨b,0,none⟩ v').heap[k]? =w.heap[k]? :=fun k hk=>Below.heap_setCell _ _ _ _ hk
 have hblk:Blk w b [v] t:=hb.1
 have hnd:b∉L.map (·.1)∧(L.map (·.1)).Nodup:=by simpa using h.nd
 refine⟨fun k hk=>(hn k (by have:=hb.2;simp only at this;omega)).trans (h.old k hk),by simpa using h.big,fun p hp=>?_,by simpa using h.nd,h.oo⟩
 rcases List.mem_cons.1 hp with rfl|hp
 ·exact⟨hblk.store 0 v',hb.2⟩
 ·have:=h.bl p (Qhx _ hp)
  exact⟨(hn p.1 fun e=>hnd.1 (List.mem_map.2 ⟨p,hp,e⟩)).trans this.1,this.2⟩
theorem KB.cell {b:Nat}{c:Array Value}{t:TypeId}{f:Nat×Nat}(h:KB N w0 L w)(hm:(b,Qhq c t f)∈L)(o:Nat):w.cell? ⟨b,o,none⟩=c[o]? :=by
 have:=(h.bl _ hm).1
 simp only at this
 simp[World.cell?,this]
theorem KB.free {b:Nat}{c:Array Value}{t:TypeId}(h:KB N w0 L w)(hm:(b,Qhq c t)∈L)(o:Nat):w.frozen? ⟨b,o,none⟩=false:=by
 have:=(h.bl _ hm).1
 simp only at this
 simp[World.frozen?,this]
end
theorem Sn.alloc {X:Nat→Bool}{w:World}(h:Sn X w)(c:Array Value)(e:TypeId):Sn X (w.alloc (.cells c e)):=by
 refine h.turn (by simp) (fun r hr=>Below.heap_alloc w _ r (h.xok.lt r hr)) fun r o _ ho=>?_
 rcases Nat.lt_or_ge r w.heap.size with hlt|hge
 ·rw[Below.heap_alloc w _ r hlt]at ho;exact .inl ho
 ·have hr:r=w.heap.size:=by
   have:=(Array.getElem?_eq_some_iff.1 ho).1
   simp at this
   omega
  subst hr
  rw[heap_alloc_new]at ho
  exact .inr (.inl ⟨c,e,(0,0),(Option.some.inj ho).symm⟩)
theorem Sn.allocChan {X:Nat→Bool}{w:World}(h:Sn X w)(a:Nat)(b:Array Value)(c:Bool)(d e:Nat)(f:Bool):Sn X (w.alloc (.chan a b c d e f)):=by
 refine h.turn (by simp) (fun r hr=>Below.heap_alloc w _ r (h.xok.lt r hr)) fun r o _ ho=>?_
 rcases Nat.lt_or_ge r w.heap.size with hlt|hge
 ·rw[Below.heap_alloc w _ r hlt]at ho;exact .inl ho
 ·have hr:r=w.heap.size:=by
   have:=(Array.getElem?_eq_some_iff.1 ho).1
   simp at this
   omega
  subst hr
  rw[heap_alloc_new]at ho
  exact .inr (.inr ⟨a,b,c,d,e,f,(Option.some.inj ho).symm⟩)
theorem Sn.set {X:Nat→Bool}{w:World}(h:Sn X w){b:Nat}{v v':Value}{t:TypeId}(hb:w.heap[b]? =some (.cells #[v] t))(hx:X b=false):Sn X (w.setCell ⟨b,0,none⟩ v'):=by
 have hn:∀k,k≠b→(w.setCell ⟨b,0,none⟩ v').heap[k]? =w.heap[k]? :=fun k hk=>Below.heap_setCell _ _ _ _ hk
 have hblk:Blk w b [v] t:=hb
 refine h.turn (by simp) (fun r hr=>hn r fun e=>by rw[e,hx]at hr;cases hr) fun r o _ ho=>?_
 by_cases e:r=b
 ·subst e
  have:=hblk.store 0 v'
  unfold Blk at this
  rw[this]at ho
  exact .inr (.inl ⟨_,_,_,(Option.some.inj ho).symm⟩)
 ·rw[hn r e]at ho;exact .inl ho
structure KS (X:Nat→Bool) (N:Nat) (w0:World) (L:List (Nat×Obj)) (w:World):Prop where
 kb:KB N w0 L w
 sn:Sn X w
 xo:∀b,N≤b→X b=false
section
variable {X:Nat→Bool} {N:Nat} {w0:World} {L:List (Nat×Obj)} {w w1:World}
theorem KS.rely (h:KS X N w0 L w)(r:AtRel w w1):KS X N w0 L w1:=⟨h.kb.rely r,by obtain⟨d,rfl⟩:=r;exact h.sn.at d,h.xo⟩
theorem KS.alloc (h:KS X N w0 L w)(c:Array Value)(e:TypeId):KS X N w0 ((w.heap.size,.cells c e)::L) (w.alloc (.cells c e)):=⟨h.kb.alloc _,h.sn.alloc c e,h.xo⟩
theorem KS.allocChan (h:KS X N w0 L w)(a:Nat)(b:Array Value)(c:Bool)(d e:Nat)(f:Bool):KS X N w0 ((w.heap.size,.chan a b c d e f)::L) (w.alloc (.chan a b c d e f)):=⟨h.kb.alloc _,h.sn.allocChan a b c d e f,h.xo⟩
theorem KS.set {b:Nat}{v v':Value}{t:TypeId}(h:KS X N w0 ((b,.cells #[v] t)::L) w):KS X N w0 ((b,.cells #[v'] t)::L) (w.setCell ⟨b,0,none⟩ v'):=
 ⟨h.kb.set,h.sn.set (h.kb.bl _ Qhp).1 (h.xo b (h.kb.bl _ Qhp).2),h.xo⟩
theorem KS.call (h:KS X N w0 L w)(hs:Sn X w1)(ho:∀b,b<w.heap.size→w1.heap[b]? =w.heap[b]?)(hz:w.heap.size≤w1.heap.size)(hoo:OO w1 w):KS X N w0 L w1:=⟨h.kb.call ho hz hoo,hs,h.xo⟩
theorem KS.put (h:KS X N w0 L w){b:Nat}{o:Obj}(hb:w.heap[b]? =some o)(hN:N≤b)(hn:b∉L.map (·.1)):KS X N w0 ((b,o)::L) w:=
 ⟨⟨h.kb.old,h.kb.big,fun p hp=>by
   rcases List.mem_cons.1 hp with rfl|hp
   ·exact⟨hb,hN⟩
   ·exact h.kb.bl p hp,by rw[Qhv,List.nodup_cons];exact⟨hn,h.kb.nd⟩,h.kb.oo⟩,h.sn,h.xo⟩
theorem ZR (r:AtRel w w1):w.heap.size≤w1.heap.size:=by obtain⟨d,rfl⟩:=r;exact Qhu _
theorem KS.ev (h:KS X N w0 L w){b o:Nat}(hN:N≤b)(hb:b<w.heap.size)(wr:Bool){w':World}(hz:w.heap.size≤w'.heap.size):∀B,w'.heap.size≤B→Ev X B ⟨.cell ⟨b,o,none⟩,wr,false⟩:=fun B hB=>⟨h.xo b hN,by show b<B;omega⟩
theorem KS.lt (h:KS X N w0 L w){p:Nat×Obj}(hp:p∈L):p.1<w.heap.size:=(Array.getElem?_eq_some_iff.1 (h.kb.bl p hp).1).1
end
structure KR (X:Nat→Bool) (N:Nat) (w0:World) (L:List (Nat×Obj)) (v:Value) (RX:List Int) (w:World):Prop extends KS X N w0 L w where
 ow:Qa w N v RX
 nb:∀p∈L,v.ownBlock≠some p.1
section
variable {X:Nat→Bool} {N:Nat} {w0:World} {L:List (Nat×Obj)} {v:Value} {RX:List Int} {w w1:World}
theorem KR.rely (h:KR X N w0 L v RX w)(r:AtRel w w1):KR X N w0 L v RX w1:=⟨h.toKS.rely r,ZP h.ow fun b _=>by obtain⟨d,rfl⟩:=r;rfl,h.nb⟩
theorem KR.row (h:KR X N w0 L v RX w)(o:Obj):Qa (w.alloc o) N v RX∧v.ownBlock≠some w.heap.size:=
 ⟨ZP h.ow fun b hb=>Below.heap_alloc w o b (h.ow.lt b hb).2,fun e=>by have:=(h.ow.lt _ e).2;omega⟩
theorem KR.alloc (h:KR X N w0 L v RX w)(c:Array Value)(e:TypeId):KR X N w0 ((w.heap.size,.cells c e)::L) v RX (w.alloc (.cells c e)):=
 ⟨h.toKS.alloc c e,(h.row _).1,fun p hp=>by
   rcases List.mem_cons.1 hp with rfl|hp
   ·exact(h.row (.cells c e)).2
   ·exact h.nb p hp⟩
theorem KR.allocChan (h:KR X N w0 L v RX w)(a:Nat)(b:Array Value)(c:Bool)(d e:Nat)(f:Bool):KR X N w0 ((w.heap.size,.chan a b c d e f)::L) v RX (w.alloc (.chan a b c d e f)):=
 ⟨h.toKS.allocChan a b c d e f,(h.row _).1,fun p hp=>by
   rcases List.mem_cons.1 hp with rfl|hp
   ·exact(h.row (.chan a b c d e f)).2
   ·exact h.nb p hp⟩
theorem KR.set {b:Nat}{u u':Value}{t:TypeId}(h:KR X N w0 ((b,.cells #[u] t)::L) v RX w):KR X N w0 ((b,.cells #[u'] t)::L) v RX (w.setCell ⟨b,0,none⟩ u'):=
 ⟨h.toKS.set,ZP h.ow fun k hk=>Below.heap_setCell _ _ _ _ fun e=>h.nb (b,.cells #[u] t) Qhp (by rw[←show k=b from e];exact hk),fun p hp=>by
   rcases List.mem_cons.1 hp with rfl|hp
   ·exact h.nb (b,.cells #[u] t) Qhp
   ·exact h.nb p (Qhx _ hp)⟩
theorem KR.call (h:KR X N w0 L v RX w)(hs:Sn X w1)(ho:∀b,b<w.heap.size→w1.heap[b]? =w.heap[b]?)(hz:w.heap.size≤w1.heap.size)(hoo:OO w1 w):KR X N w0 L v RX w1:=
 ⟨h.toKS.call hs ho hz hoo,ZP h.ow fun b hb=>ho b (h.ow.lt b hb).2,h.nb⟩
theorem KR.put (h:KR X N w0 L v RX w){b:Nat}{o:Obj}(hb:w.heap[b]? =some o)(hN:N≤b)(hn:b∉L.map (·.1))(hv:v.ownBlock≠some b):KR X N w0 ((b,o)::L) v RX w:=
 ⟨h.toKS.put hb hN hn,h.ow,fun p hp=>by
   rcases List.mem_cons.1 hp with rfl|hp
   ·exact hv
   ·exact h.nb p hp⟩
end
noncomputable def Kf:Code:=match Tryz.f81.body with
 |some (.seq _ (.seq _ (.seq _ (.seq _ e))))=>e
 |_=>.skip
def YL (h:Hp)(RX:List Int)(bh bw bt Ch gW:Nat):List (Nat×Obj):=
 [(bt,.cells #[.chan (some Ch)] 136),(Ch,.chan h.ws.length #[] false 0 0 false),(bw,.cells #[.slice (some ⟨gW,0,none⟩) h.os.length h.os.length] 24),
     (gW,.cells ((whs RX h.os.length).map (Value.int .i64)).toArray 3),(bh,.cells #[.slice h.oa h.os.length h.ocap,.slice h.ra h.rs.length h.rcap,.slice h.wa h.ws.length h.wcap,.slice h.da h.ds.length h.dcap] 27)]
def Qbr (X:Nat→Bool)(h:Hp)(RX:List Int)(w:World)(cs:List Frame)(g:Goroutine)(w':World):Prop:=
 ∃(T:Array Value) (bh bw bt Ch gW:Nat) (xa:Option Addr) (xcap:Nat),g=G ((base 81).at ⟨T,[]⟩ [.code Kf]) cs∧T.size=40∧T[1]? =some (.pointer (some ⟨bh,0,none⟩))∧T[3]? =some (.slice xa RX.length xcap)∧T[4]? =some (.pointer (some ⟨bw,0,none⟩))∧T[5]? =some (.pointer (some ⟨bt,0,none⟩))∧
  KR X w.heap.size w (YL h RX bh bw bt Ch gW) (.slice xa RX.length xcap) RX w'
def Qbq (X:Nat→Bool)(h:Hp)(RX:List Int)(N:Nat)(w:World)(bh bw bt Wg Ch gW:Nat)(xa:Option Addr)(xcap:Nat)(cs:List Frame)(g:Goroutine)(w':World):Prop:=
 ∃(T:Array Value),g=G ((base 81).at ⟨T,[]⟩ [.code Z6,.inLoop Z6,.inBlock 0,.code J2]) cs∧DH Wg bh bw bt xa RX.length xcap 0 T∧
  KR X N w ((Wg,Go.ConcR.wgBlock Tryz.link.tWg 0 0)::YL h RX bh bw bt Ch gW) (.slice xa RX.length xcap) RX w'
section
variable {X:Nat→Bool} {Ch0:Nat} {cs:List Frame}
theorem Qde (h:Hp)(w:World)(hS:Sn X w)(hh:Qg (emW X w) h)(hs:Zl h)(ht:∀i (hi:i<h.os.length),h.os[i].t.size≤maxLen)(hcap:∀(i:Nat) (hi:i<h.os.length),h.os[i].r.length≤h.os[i].rcap)(hn:h.os.length≤60)(hpl:Qq h.os.length (reachP h.p)):
 Qt Tryz.prog X Ch0 (Qbr X h (reachP h.p) w cs) (G (Frame.enter Tryz.prog 81 #[h.v] .normal) cs) w:=by
 rw[enter_at _ Tryz.func81 rfl]
 have hF:KS X w.heap.size w [] w:=⟨KB.refl w,hS,fun b hb=>hS.out hb⟩
 generalize hN:w.heap.size=N at hF
 refine QI (n:=30) ?_
 simp only[Tryz.f81,Hp.v]
 walk_nrm
 u_c stepG_seq KS.rely hF
 u_reg KS.rely hF
 refine Goes.stop (fun w1 h1=>?_)
 replace hF:=KS.rely hF h1
 clear h1
 refine ZL rfl (fun w2 h2=>?_)
 have hz:=ZR h2
 replace hF:=KS.rely hF h2
 clear h2
 refine goes_oper_k rfl rfl (by decide) (fun K hK=>?_)
 go_simp
 refine hK _ _ ⟨⟨by simp;omega,fun B hB e he=>?_⟩,?_⟩
 ·have hm:=mem_listed he
  simp[go_sem]at hm
 clear hK K hz
 replace hF:=hF.alloc #[.slice h.oa h.os.length h.ocap,.slice h.ra h.rs.length h.rcap,.slice h.wa h.ws.length h.wcap,.slice h.da h.ds.length h.dcap] 27
 generalize w2.alloc (Qhq #[.slice h.oa h.os.length h.ocap,.slice h.ra h.rs.length h.rcap,.slice h.wa h.ws.length h.wcap,.slice h.da h.ds.length h.dcap] 27)=w3 at hF
 generalize w2.heap.size=bh at hF
 refine QI (n:=30) ?_
 try walk_nrm
 u_op KS.rely hF
 u_c stepG_region_end KS.rely hF
 u_c stepG_seq KS.rely hF
 u_reg KS.rely hF
 refine Goes.stop (fun w4 h4=>?_)
 replace hF:=KS.rely hF h4
 clear h4
 refine ZL rfl (fun w5 h5=>?_)
 have hz:=ZR h5
 replace hF:=KS.rely hF h5
 clear h5
 have hl:=hF.lt Qhp
 have hg:=(hF.kb.bl _ Qhp).2
 refine goes_oper_k rfl rfl (by decide) (fun K hK=>?_)
 have e0:=hF.kb.cell Qhp 0
 have e1:=hF.kb.cell Qhp 1
 have e2:=hF.kb.cell Qhp 2
 have e3:=hF.kb.cell Qhp 3
 simp only[Qhr,Qhs,Qht]at e0 e1 e2 e3
 go_simp
 refine hK _ _ ⟨⟨hz,fun B hB e he=>?_⟩,?_⟩
 ·have hm:=mem_listed he
  simp[go_sem,e0,e1,e2,e3]at hm
  rcases hm with rfl|rfl|rfl|rfl<;>exact hF.ev hg hl false (Qhu _) B hB
 clear hK K hz e0 e1 e2 e3 hl hg
 refine QI (n:=5) ?_
 u_in KS.rely hF
 refine goes_call rfl rfl (by decide) rfl Tryz.func14 rfl rfl ⟨by u_nil,?_⟩
 rw[←enter_at _ Tryz.func14 rfl]
 simp only[List.map_toArray,Qhv,List.map_nil,Act.eval,Qhy,Qhr,Qht,Qhs,Option.getD_some]
 refine Goes.stop (fun w6 h6=>?_)
 replace hF:=KS.rely hF h6
 clear h6
 have hh6:∀t d,Qg {emW X w6 with tape:=t,drawn:=d} h:=fun t d=>Qg.heap hh (by rw[QD,hN];show N≤(emW X w6).heap.size;rw[QD];exact hF.kb.big) fun b hb=>by
  rw[QD,hN]at hb
  show(emW X w6).heap[b]? =(emW X w).heap[b]?
  rw[Q7,Q7,hF.kb.old b hb]
 refine VZ (R:=fun v w1=>Qa w1 w6.heap.size v (reachP h.p)) (by kernel_rfl) hF.sn (fun t d=>?_) (fun v w7 w7' hE hS7 ho hz hoo hR=>?_)
 ·refine(QdZ h _ (hh6 t d) hs ht hcap).mono ?_
  rintro e w1 ⟨v',rfl,h1,h2⟩
  rw[show({emW X w6 with tape:=t,drawn:=d}:World).heap.size=w6.heap.size from QD X w6]at h1 h2
  exact⟨v',rfl,h1,h2⟩
 have hFr:KR X N w [(bh,.cells #[.slice h.oa h.os.length h.ocap,.slice h.ra h.rs.length h.rcap,.slice h.wa h.ws.length h.wcap,.slice h.da h.ds.length h.dcap] 27)] v (reachP h.p) w7:=by
  have hN6:=hF.kb.big
  have hlt:=hR.lt
  refine⟨hF.call hS7 ho hz hoo,Yh (ZP hR fun b hb=>JH hE (hF.xo b (by have:=(hlt b hb).1;omega))) hN6,fun p hp e=>?_⟩
  have h1:=(hlt _ e).1
  have h2:=hF.lt hp
  omega
 obtain⟨xa,xcap,rfl,_⟩:=hR.form
 clear hF hE hS7 ho hz hoo hR hh6
 have hF:=hFr
 clear hFr
 generalize hRX:reachP h.p=RX at hF hpl
 rw[Frame.finish_at]
 simp only[Qhr,Qht,Qhs,Option.bind_some]
 refine QI (n:=30) ?_
 walk_nrm
 u_op KR.rely hF
 u_c stepG_region_end KR.rely hF
 u_c stepG_seq KR.rely hF
 u_reg KR.rely hF
 u_op KR.rely hF
 u_op KR.rely hF
 refine Goes.stop (fun w8 h8=>?_)
 replace hF:=KR.rely hF h8
 clear h8
 refine ZL rfl (fun w9 h9=>?_)
 have hz:=ZR h9
 replace hF:=KR.rely hF h9
 clear h9
 have hl:=hF.toKS.lt Qhp
 have hg:=(hF.kb.bl _ Qhp).2
 refine goes_oper_k rfl rfl (by decide) (fun K hK=>?_)
 have e0:=hF.kb.cell Qhp 0
 simp only[Qhr,Qhs,Qht]at e0
 go_simp
 refine hK _ _ ⟨⟨hz,fun B hB e he=>?_⟩,?_⟩
 ·have hm:=mem_listed he
  simp[go_sem,e0]at hm
  subst hm
  exact hF.toKS.ev hg hl false (Qhu _) B hB
 clear hK K hz e0 hl hg
 refine QI (n:=5) ?_
 u_op KR.rely hF
 u_in KR.rely hF
 refine goes_call rfl rfl (by decide) rfl Tryz.func97 rfl rfl ⟨by u_nil,?_⟩
 rw[←enter_at _ Tryz.func97 rfl]
 simp only[List.map_toArray,Qhv,List.map_nil,Act.eval,Qhy,Qhr,Qht,Qhs,Option.getD_some]
 refine Goes.stop (fun w10 h10=>?_)
 replace hF:=KR.rely hF h10
 clear h10
 have hseg:∀t d,Qk {emW X w10 with tape:=t,drawn:=d} xa RX:=fun t d=>by
  have h1:Qa {emW X w10 with tape:=t,drawn:=d} N (.slice xa RX.length xcap) RX:=ZP hF.ow fun b hb=>by
   show(emW X w10).heap[b]? =w10.heap[b]?
   exact Z7 (hF.xo b (hF.ow.lt b hb).1)
  obtain⟨a,cp,e,h2,_⟩:=h1.form
  cases e
  exact h2
 refine VZ (R:=fun v w1=>∃g,v=.slice (some ⟨g,0,none⟩) h.os.length h.os.length∧Blk w1 g ((whs RX h.os.length).map (Value.int .i64)) 3∧w10.heap.size≤g) (by kernel_rfl) hF.sn (fun t d=>?_) (fun v w11 w11' hE hS11 ho hz hoo hR=>?_)
 ·refine(Qhh h.os.length RX xa xcap _ hn (hseg t d) hpl).mono ?_
  rintro e w1 ⟨g,rfl,h1,h2,h3⟩
  rw[show({emW X w10 with tape:=t,drawn:=d}:World).heap.size=w10.heap.size from QD X w10]at h2 h3
  exact⟨_,rfl,⟨g,rfl,h1,h2⟩,h3⟩
 obtain⟨gW,rfl,hgb,hgl⟩:=hR
 have hbig:=hF.kb.big
 have hold:=hF.toKS.lt Qhp
 have hol:=hF.ow.lt
 replace hF:=(hF.call hS11 ho hz hoo).put (b:=gW) (o:=.cells ((whs RX h.os.length).map (Value.int .i64)).toArray 3) ((JH hE (hF.xo gW (by omega))).trans hgb) (by omega) (by simp only[Qhv,List.map_nil,List.mem_singleton];simp only at hold;omega) (fun e=>by have:=(hol _ e).2;omega)
 clear hE hS11 ho hz hoo hgb hgl hseg hbig hold hol
 rw[Frame.finish_at]
 simp only[Qhr,Qht,Qhs,Option.bind_some]
 refine QI (n:=5) ?_
 walk_nrm
 refine Goes.stop (fun w12 h12=>?_)
 replace hF:=KR.rely hF h12
 clear h12
 refine ZL rfl (fun w13 h13=>?_)
 have hz:=ZR h13
 replace hF:=KR.rely hF h13
 clear h13
 refine goes_oper_k rfl rfl (by decide) (fun K hK=>?_)
 go_simp
 refine hK _ _ ⟨⟨by simp;omega,fun B hB e he=>?_⟩,?_⟩
 ·have hm:=mem_listed he
  simp[go_sem]at hm
 clear hK K hz
 replace hF:=hF.alloc #[.slice none 0 0] 24
 generalize w13.alloc (Qhq #[.slice none 0 0] 24)=w14 at hF
 generalize w13.heap.size=bw at hF
 refine QI (n:=5) ?_
 try walk_nrm
 refine Goes.stop (fun w15 hw15=>?_)
 replace hF:=KR.rely hF hw15
 clear hw15
 refine ZL rfl (fun w16 hw16=>?_)
 have hz:=ZR hw16
 replace hF:=KR.rely hF hw16
 clear hw16
 have hl:=hF.toKS.lt Qhp
 have hg:=(hF.kb.bl _ Qhp).2
 refine goes_oper_k rfl rfl (by decide) (fun K hK=>?_)
 have e0:=hF.kb.cell Qhp 0
 have e1:=hF.kb.free Qhp 0
 simp only[Qhr,Qhs,Qht]at e0
 go_simp
 try(unfold stored;go_simp)
 refine hK _ _ ⟨⟨by simp;omega,fun B hB e he=>?_⟩,?_⟩
 ·have hm:=mem_listed he
  simp[go_sem,storedEv,e0,e1]at hm
  subst hm
  exact hF.toKS.ev hg hl true (Qhu _) B (by simpa using hB)
 clear hK K hz e0 e1 hl hg
 replace hF:=hF.set (u':=.slice (some ⟨gW,0,none⟩) h.os.length h.os.length)
 generalize w16.setCell ⟨bw,0,none⟩ (.slice (some ⟨gW,0,none⟩) h.os.length h.os.length)=w17 at hF
 refine QI (n:=30) ?_
 try walk_nrm
 u_c stepG_region_end KR.rely hF
 u_c stepG_seq KR.rely hF
 u_reg KR.rely hF
 u_op KR.rely hF
 refine Goes.stop (fun w18 hw18=>?_)
 replace hF:=KR.rely hF hw18
 clear hw18
 refine ZL rfl (fun w19 hw19=>?_)
 have hz:=ZR hw19
 replace hF:=KR.rely hF hw19
 clear hw19
 have hmem:(bh,Qhq #[.slice h.oa h.os.length h.ocap,.slice h.ra h.rs.length h.rcap,.slice h.wa h.ws.length h.wcap,.slice h.da h.ds.length h.dcap] 27)∈[(bw,Qhq #[.slice (some ⟨gW,0,none⟩) h.os.length h.os.length] 24),(gW,Qhq ((whs RX h.os.length).map (Value.int .i64)).toArray 3),(bh,Qhq #[.slice h.oa h.os.length h.ocap,.slice h.ra h.rs.length h.rcap,.slice h.wa h.ws.length h.wcap,.slice h.da h.ds.length h.dcap] 27)]:=by simp
 have hl:=hF.toKS.lt hmem
 have hg:=(hF.kb.bl _ hmem).2
 refine goes_oper_k rfl rfl (by decide) (fun K hK=>?_)
 have e0:=hF.kb.cell hmem 2
 simp only[Qhr,Qhs,Qht]at e0
 go_simp
 refine hK _ _ ⟨⟨hz,fun B hB e he=>?_⟩,?_⟩
 ·have hm:=mem_listed he
  simp[go_sem,e0]at hm
  subst hm
  exact hF.toKS.ev hg hl false (Qhu _) B hB
 clear hK K hz e0 hl hg hmem
 refine QI (n:=5) ?_
 try walk_nrm
 u_op KR.rely hF
 refine Goes.stop (fun w20 hw20=>?_)
 replace hF:=KR.rely hF hw20
 clear hw20
 refine ZL rfl (fun w21 hw21=>?_)
 have hz:=ZR hw21
 replace hF:=KR.rely hF hw21
 clear hw21
 obtain⟨i0,hi,hz0,hz1,hz2⟩:∃i0,Tryz.prog.info? 3=some i0∧i0.zero=some (.int .i64 0)∧i0.size=1∧i0.bytes=8:=by
  have h:=Ox
  cases hx:Tryz.prog.info? 3 with
  |none=>rw[hx]at h;cases h
  |some i0=>
   rw[hx]at h
   simp only[Option.map_some,Option.some.injEq,Prod.mk.injEq]at h
   exact⟨i0,rfl,h.1,h.2.1,h.2.2⟩
 have hsw:=hs.w
 have hmk:=run_makeChan (P:=Tryz.prog) (w:=w21) Tryz.underlying136 hi .i64 h.ws.length (by omega) (by rw[hz2];omega)
 have hme:=fun es=>events_makeChan (P:=Tryz.prog) (w:=w21) Tryz.underlying136 hi .i64 h.ws.length (by omega) (by rw[hz2];omega) es
 refine goes_oper_k rfl rfl (by decide) (fun K hK=>?_)
 go_simp
 refine hK _ _ ⟨⟨by simp;omega,fun B hB e he=>?_⟩,?_⟩
 ·have hm:=mem_listed he
  simp[go_sem,hme]at hm
 clear hK K hz hmk hme hi hz0 hz1 hz2 hsw
 replace hF:=hF.allocChan h.ws.length #[] false 0 0 false
 generalize w21.alloc (Obj.chan h.ws.length #[] false 0 0 false)=w22 at hF
 generalize w21.heap.size=Ch at hF
 refine QI (n:=5) ?_
 try walk_nrm
 refine Goes.stop (fun w23 hw23=>?_)
 replace hF:=KR.rely hF hw23
 clear hw23
 refine ZL rfl (fun w24 hw24=>?_)
 have hz:=ZR hw24
 replace hF:=KR.rely hF hw24
 clear hw24
 refine goes_oper_k rfl rfl (by decide) (fun K hK=>?_)
 go_simp
 refine hK _ _ ⟨⟨by simp;omega,fun B hB e he=>?_⟩,?_⟩
 ·have hm:=mem_listed he
  simp[go_sem]at hm
 clear hK K hz
 replace hF:=hF.alloc #[.chan none] 136
 generalize w24.alloc (Qhq #[.chan none] 136)=w25 at hF
 generalize w24.heap.size=bt at hF
 refine QI (n:=5) ?_
 try walk_nrm
 refine Goes.stop (fun w26 hw26=>?_)
 replace hF:=KR.rely hF hw26
 clear hw26
 refine ZL rfl (fun w27 hw27=>?_)
 have hz:=ZR hw27
 replace hF:=KR.rely hF hw27
 clear hw27
 have hl:=hF.toKS.lt Qhp
 have hg:=(hF.kb.bl _ Qhp).2
 refine goes_oper_k rfl rfl (by decide) (fun K hK=>?_)
 have e0:=hF.kb.cell Qhp 0
 have e1:=hF.kb.free Qhp 0
 simp only[Qhr,Qhs,Qht]at e0
 go_simp
 try(unfold stored;go_simp)
 refine hK _ _ ⟨⟨by simp;omega,fun B hB e he=>?_⟩,?_⟩
 ·have hm:=mem_listed he
  simp[go_sem,storedEv,e0,e1]at hm
  subst hm
  exact hF.toKS.ev hg hl true (Qhu _) B (by simpa using hB)
 clear hK K hz e0 e1 hl hg
 replace hF:=hF.set (u':=.chan (some Ch))
 generalize w27.setCell ⟨bt,0,none⟩ (.chan (some Ch))=w28 at hF
 refine QI (n:=30) ?_
 try walk_nrm
 u_c stepG_region_end KR.rely hF
 refine Goes.stop (fun w29 h29=>.stop ?_)
 replace hF:=KR.rely hF h29
 rw[←hN]at hF
 exact⟨_,bh,bw,bt,Ch,gW,xa,xcap,rfl,rfl,rfl,rfl,rfl,rfl,hF⟩
theorem Qdf {X':Nat→Bool}{h:Hp}{RX:List Int}{N:Nat}{w0 w:World}{T:Array Value}{bh bw bt Ch gW:Nat}{xa:Option Addr}{xcap:Nat}(hT:T.size=40)(t1:T[1]? =some (.pointer (some ⟨bh,0,none⟩)))(t3:T[3]? =some (.slice xa RX.length xcap))(t4:T[4]? =some (.pointer (some ⟨bw,0,none⟩)))(t5:T[5]? =some (.pointer (some ⟨bt,0,none⟩)))
 (hF:KR X N w0 (YL h RX bh bw bt Ch gW) (.slice xa RX.length xcap) RX w):
 Qt Tryz.prog X' Ch0 (Qbq X h RX N w0 bh bw bt w.heap.size Ch gW xa xcap cs) (G ((base 81).at ⟨T,[]⟩ [.code Kf]) cs) w:=by
 obtain⟨v0,v1,v2,v3,v4,v5,v6,v7,v8,v9,v10,v11,v12,v13,v14,v15,v16,v17,v18,v19,v20,v21,v22,v23,v24,v25,v26,v27,v28,v29,v30,v31,v32,v33,v34,v35,v36,v37,v38,v39,rfl⟩:=Ut T hT
 simp only[Qhr,Qhs,Qht,Option.some.injEq]at t1 t3 t4 t5
 subst t1 t3 t4 t5
 have hZ:w.heap.size=w.heap.size:=rfl
 generalize hZ':w.heap.size=Z at hZ⊢
 have hF:KR X N w0 (YL h RX bh bw bt Ch gW) (.slice xa RX.length xcap) RX w∧w.heap.size=Z:=⟨hF,hZ'⟩
 clear hZ hZ'
 have rel:∀ {a b:World},(KR X N w0 (YL h RX bh bw bt Ch gW) (.slice xa RX.length xcap) RX a∧a.heap.size=Z)→AtRel a b→(KR X N w0 (YL h RX bh bw bt Ch gW) (.slice xa RX.length xcap) RX b∧b.heap.size=Z):=fun h r=>⟨h.1.rely r,by obtain⟨d,rfl⟩:=r;exact h.2⟩
 simp only[Kf,Tryz.f81]
 refine QI (n:=30) ?_
 u_c stepG_seq rel hF
 u_reg rel hF
 refine Goes.stop (fun w29 h29=>?_)
 replace hF:=rel hF h29
 clear h29
 refine ZL rfl (fun w30 h30=>?_)
 have hz:=ZR h30
 replace hF:=rel hF h30
 clear h30 rel
 obtain⟨hF,hZ⟩:=hF
 refine goes_oper_k rfl rfl (by decide) (fun K hK=>?_)
 go_simp
 refine hK _ _ ⟨⟨by simp;omega,fun B hB e he=>?_⟩,?_⟩
 ·have hm:=mem_listed he
  simp[go_sem]at hm
 clear hK K hz
 replace hF:=hF.alloc #[.int .u64 0,.int .u32 0] 145
 try rw[hZ]at hF
 generalize w30.alloc (Qhq #[.int .u64 0,.int .u32 0] 145)=w31 at hF
 try rw[hZ]
 clear hZ
 refine QI (n:=30) ?_
 try walk_nrm
 u_c stepG_region_end KR.rely hF
 u_c stepG_seq KR.rely hF
 u_c stepG_seq KR.rely hF
 u_reg KR.rely hF
 u_op KR.rely hF
 u_op KR.rely hF
 u_op KR.rely hF
 u_c stepG_region_end KR.rely hF
 u_c stepG_block KR.rely hF
 u_c stepG_loop KR.rely hF
 refine Goes.stop (fun w32 h32=>.stop ?_)
 replace hF:=KR.rely hF h32
 exact⟨_,rfl,⟨rfl,rfl,rfl,rfl,rfl,rfl,rfl,rfl⟩,hF⟩
end
end Co
end Go.Proofs.YtcpnkpogebjieaaGreat
