/- dueOf from its entry to the head of its loop, beside goroutines that only leave. -/
import Derived.Test.YtcpnkpogebjieaaGreatS17Ca
import Derived.Test.YtcpnkpogebjieaaGreatS09ToH
import Derived.Test.YtcpnkpogebjieaaGreatS18Zu
import Derived.Test.YtcpnkpogebjieaaGreatS19Zx
import Derived.Test.YtcpnkpogebjieaaGreatS15Ss2
open List renaming mem_cons_self→QhR,getElem?_toArray→QhS,getElem?_cons_zero→QhT,getElem?_cons_succ→QhU,map_cons→QhX,mem_cons_of_mem→QhY,map_nil→QhZ,map_toArray→Qh1
open Go.Obj renaming cells→QhV
open Nat renaming le_refl→QhW
open Option renaming bind_some→Qh0,getD_some→Qh3
open Array renaming getD_eq_getD_getElem?→Qh2
set_option maxRecDepth 100000
set_option maxHeartbeats 4000000
namespace Go.Proofs.YtcpnkpogebjieaaGreat
namespace Co
open Go.Conc Go.ConcN Go.RowKit Go.Conc.Lib Go.ConcR.Gen
open Go.ConcR (DC0 WgAt)
set_option linter.unusedSimpArgs false
structure KB (N:Nat) (w0:World) (L:List (Nat×Obj)) (w:World):Prop where
 old:∀b,b<N→w.heap[b]? =w0.heap[b]?
 big:N≤w.heap.size
 bl:∀p∈L,w.heap[p.1]? =some p.2∧N≤p.1
 nd:(L.map (·.1)).Nodup
 oo:OO w w0
section
variable {N:Nat} {w0:World} {L:List (Nat×Obj)} {w w1:World}
theorem KB.refl (w:World):KB w.heap.size w [] w:=⟨fun _ _=>rfl,QhW _,by simp,by simp,.refl _⟩
theorem KB.rely (h:KB N w0 L w)(r:AtRel w w1):KB N w0 L w1:=by
 obtain⟨d,rfl⟩:=r;exact⟨h.old,h.big,h.bl,h.nd,h.oo⟩
theorem KB.call (h:KB N w0 L w)(ho:∀b,b<w.heap.size→w1.heap[b]? =w.heap[b]?)(hs:w.heap.size≤w1.heap.size)(hoo:OO w1 w):KB N w0 L w1:=
 ⟨fun b hb=>(ho b (Nat.lt_of_lt_of_le hb h.big)).trans (h.old b hb),Nat.le_trans h.big hs,fun p hp=>⟨(ho p.1 (Array.getElem?_eq_some_iff.1 (h.bl p hp).1).1).trans (h.bl p hp).1,(h.bl p hp).2⟩,h.nd,hoo.trans h.oo⟩
theorem KB.alloc (h:KB N w0 L w)(o:Obj):KB N w0 ((w.heap.size,o)::L) (w.alloc o):=by
 refine⟨fun b hb=>(Below.heap_alloc w o b (Nat.lt_of_lt_of_le hb h.big)).trans (h.old b hb),by have:=h.big;simp;omega,fun p hp=>?_,?_,h.oo⟩
 ·rcases List.mem_cons.1 hp with rfl|hp
  ·exact⟨heap_alloc_new w o,h.big⟩
  ·exact⟨(Below.heap_alloc w o p.1 (Array.getElem?_eq_some_iff.1 (h.bl p hp).1).1).trans (h.bl p hp).1,(h.bl p hp).2⟩
 ·rw[QhX,List.nodup_cons];refine⟨fun hm=>?_,h.nd⟩;obtain⟨p,hp,e⟩:=List.mem_map.1 hm;have:=(Array.getElem?_eq_some_iff.1 (h.bl p hp).1).1;simp only at e;omega
theorem KB.set {b:Nat}{v v':Value}{t:TypeId}(h:KB N w0 ((b,.cells #[v] t)::L) w):KB N w0 ((b,.cells #[v'] t)::L) (w.setCell ⟨b,0,none⟩ v'):=by
 have hb:=h.bl _ QhR;have hn:∀k,k≠b→(w.setCell ⟨b,0,none⟩ v').heap[k]? =w.heap[k]? :=fun k hk=>Below.heap_setCell _ _ _ _ hk;have hblk:Blk w b [v] t:=hb.1;have hnd:b∉L.map (·.1)∧(L.map (·.1)).Nodup:=by simpa using h.nd
 refine⟨fun k hk=>(hn k (by have:=hb.2;simp only at this;omega)).trans (h.old k hk),by simpa using h.big,fun p hp=>?_,by simpa using h.nd,h.oo⟩;rcases List.mem_cons.1 hp with rfl|hp
 ·exact⟨hblk.store 0 v',hb.2⟩
 ·have:=h.bl p (QhY _ hp);exact⟨(hn p.1 fun e=>hnd.1 (List.mem_map.2 ⟨p,hp,e⟩)).trans this.1,this.2⟩
theorem KB.cell {b:Nat}{c:Array Value}{t:TypeId}{f:Nat×Nat}(h:KB N w0 L w)(hm:(b,QhV c t f)∈L)(o:Nat):w.cell? ⟨b,o,none⟩=c[o]? :=by
 have:=(h.bl _ hm).1;simp only at this;simp[World.cell?,this]
theorem KB.free {b:Nat}{c:Array Value}{t:TypeId}(h:KB N w0 L w)(hm:(b,QhV c t)∈L)(o:Nat):w.frozen? ⟨b,o,none⟩=false:=by
 have:=(h.bl _ hm).1;simp only at this;simp[World.frozen?,this]
end
theorem Sn.alloc {X:Nat→Bool}{w:World}(h:Sn X w)(c:Array Value)(e:TypeId):Sn X (w.alloc (.cells c e)):=by
 refine h.turn (by simp) (fun r hr=>Below.heap_alloc w _ r (h.xok.lt r hr)) fun r o _ ho=>?_;rcases Nat.lt_or_ge r w.heap.size with hlt|hge
 ·rw[Below.heap_alloc w _ r hlt]at ho;exact .inl ho
 ·have hr:r=w.heap.size:=by
   have:=(Array.getElem?_eq_some_iff.1 ho).1;simp at this;omega
  subst hr;rw[heap_alloc_new]at ho;exact .inr (.inl ⟨c,e,(0,0),(Option.some.inj ho).symm⟩)
theorem Sn.allocChan {X:Nat→Bool}{w:World}(h:Sn X w)(a:Nat)(b:Array Value)(c:Bool)(d e:Nat)(f:Bool):Sn X (w.alloc (.chan a b c d e f)):=by
 refine h.turn (by simp) (fun r hr=>Below.heap_alloc w _ r (h.xok.lt r hr)) fun r o _ ho=>?_;rcases Nat.lt_or_ge r w.heap.size with hlt|hge
 ·rw[Below.heap_alloc w _ r hlt]at ho;exact .inl ho
 ·have hr:r=w.heap.size:=by
   have:=(Array.getElem?_eq_some_iff.1 ho).1;simp at this;omega
  subst hr;rw[heap_alloc_new]at ho;exact .inr (.inr ⟨a,b,c,d,e,f,(Option.some.inj ho).symm⟩)
theorem Sn.set {X:Nat→Bool}{w:World}(h:Sn X w){b:Nat}{v v':Value}{t:TypeId}(hb:w.heap[b]? =some (.cells #[v] t))(hx:X b=false):Sn X (w.setCell ⟨b,0,none⟩ v'):=by
 have hn:∀k,k≠b→(w.setCell ⟨b,0,none⟩ v').heap[k]? =w.heap[k]? :=fun k hk=>Below.heap_setCell _ _ _ _ hk;have hblk:Blk w b [v] t:=hb;refine h.turn (by simp) (fun r hr=>hn r fun e=>by rw[e,hx]at hr;cases hr) fun r o _ ho=>?_;by_cases e:r=b
 ·subst e;have:=hblk.store 0 v';unfold Blk at this;rw[this]at ho;exact .inr (.inl ⟨_,_,_,(Option.some.inj ho).symm⟩)
 ·rw[hn r e]at ho;exact .inl ho
structure KS (X:Nat→Bool) (N:Nat) (w0:World) (L:List (Nat×Obj)) (w:World):Prop where
 kb:KB N w0 L w
 sn:Sn X w
 xo:∀b,N≤b→X b=false
section
variable {X:Nat→Bool} {N:Nat} {w0:World} {L:List (Nat×Obj)} {w w1:World}
theorem KS.rely (h:KS X N w0 L w)(r:AtRel w w1):KS X N w0 L w1:=⟨h.kb.rely r,by obtain⟨d,rfl⟩:=r;exact h.sn.at d,h.xo⟩
theorem KS.alloc (h:KS X N w0 L w)(c:Array Value)(e:TypeId):KS X N w0 ((w.heap.size,.cells c e)::L) (w.alloc (.cells c e)):=⟨h.kb.alloc _,h.sn.alloc c e,h.xo⟩
theorem KS.allocChan (h:KS X N w0 L w)(a:Nat)(b:Array Value)(c:Bool)(d e:Nat)(f:Bool):KS X N w0 ((w.heap.size,.chan a b c d e f)::L) (w.alloc (.chan a b c d e f)):=⟨h.kb.alloc _,h.sn.allocChan a b c d e f,h.xo⟩
theorem KS.set {b:Nat}{v v':Value}{t:TypeId}(h:KS X N w0 ((b,.cells #[v] t)::L) w):KS X N w0 ((b,.cells #[v'] t)::L) (w.setCell ⟨b,0,none⟩ v'):=
 ⟨h.kb.set,h.sn.set (h.kb.bl _ QhR).1 (h.xo b (h.kb.bl _ QhR).2),h.xo⟩
theorem KS.call (h:KS X N w0 L w)(hs:Sn X w1)(ho:∀b,b<w.heap.size→w1.heap[b]? =w.heap[b]?)(hz:w.heap.size≤w1.heap.size)(hoo:OO w1 w):KS X N w0 L w1:=⟨h.kb.call ho hz hoo,hs,h.xo⟩
theorem KS.put (h:KS X N w0 L w){b:Nat}{o:Obj}(hb:w.heap[b]? =some o)(hN:N≤b)(hn:b∉L.map (·.1)):KS X N w0 ((b,o)::L) w:=
 ⟨⟨h.kb.old,h.kb.big,fun p hp=>by
   rcases List.mem_cons.1 hp with rfl|hp
   ·exact⟨hb,hN⟩
   ·exact h.kb.bl p hp,by rw[QhX,List.nodup_cons];exact⟨hn,h.kb.nd⟩,h.kb.oo⟩,h.sn,h.xo⟩
theorem ZW (r:AtRel w w1):w.heap.size≤w1.heap.size:=by obtain⟨d,rfl⟩:=r;exact QhW _
theorem KS.ev (h:KS X N w0 L w){b o:Nat}(hN:N≤b)(hb:b<w.heap.size)(wr:Bool){w':World}(hz:w.heap.size≤w'.heap.size):∀B,w'.heap.size≤B→Ev X B ⟨.cell ⟨b,o,none⟩,wr,false⟩:=fun B hB=>⟨h.xo b hN,by show b<B;omega⟩
theorem KS.lt (h:KS X N w0 L w){p:Nat×Obj}(hp:p∈L):p.1<w.heap.size:=(Array.getElem?_eq_some_iff.1 (h.kb.bl p hp).1).1
end
structure KR (X:Nat→Bool) (N:Nat) (w0:World) (L:List (Nat×Obj)) (v:Value) (RX:List Int) (w:World):Prop extends KS X N w0 L w where
 ow:Qa w N v RX
 nb:∀p∈L,v.ownBlock≠some p.1
section
variable {X:Nat→Bool} {N:Nat} {w0:World} {L:List (Nat×Obj)} {v:Value} {RX:List Int} {w w1:World}
theorem KR.rely (h:KR X N w0 L v RX w)(r:AtRel w w1):KR X N w0 L v RX w1:=⟨h.toKS.rely r,ZZ h.ow fun b _=>by obtain⟨d,rfl⟩:=r;rfl,h.nb⟩
theorem KR.row (h:KR X N w0 L v RX w)(o:Obj):Qa (w.alloc o) N v RX∧v.ownBlock≠some w.heap.size:=
 ⟨ZZ h.ow fun b hb=>Below.heap_alloc w o b (h.ow.lt b hb).2,fun e=>by have:=(h.ow.lt _ e).2;omega⟩
theorem KR.alloc (h:KR X N w0 L v RX w)(c:Array Value)(e:TypeId):KR X N w0 ((w.heap.size,.cells c e)::L) v RX (w.alloc (.cells c e)):=
 ⟨h.toKS.alloc c e,(h.row _).1,fun p hp=>by
   rcases List.mem_cons.1 hp with rfl|hp
   ·exact(h.row (.cells c e)).2
   ·exact h.nb p hp⟩
theorem KR.allocChan (h:KR X N w0 L v RX w)(a:Nat)(b:Array Value)(c:Bool)(d e:Nat)(f:Bool):KR X N w0 ((w.heap.size,.chan a b c d e f)::L) v RX (w.alloc (.chan a b c d e f)):=
 ⟨h.toKS.allocChan a b c d e f,(h.row _).1,fun p hp=>by
   rcases List.mem_cons.1 hp with rfl|hp
   ·exact(h.row (.chan a b c d e f)).2
   ·exact h.nb p hp⟩
theorem KR.set {b:Nat}{u u':Value}{t:TypeId}(h:KR X N w0 ((b,.cells #[u] t)::L) v RX w):KR X N w0 ((b,.cells #[u'] t)::L) v RX (w.setCell ⟨b,0,none⟩ u'):=
 ⟨h.toKS.set,ZZ h.ow fun k hk=>Below.heap_setCell _ _ _ _ fun e=>h.nb (b,.cells #[u] t) QhR (by rw[←show k=b from e];exact hk),fun p hp=>by
   rcases List.mem_cons.1 hp with rfl|hp
   ·exact h.nb (b,.cells #[u] t) QhR
   ·exact h.nb p (QhY _ hp)⟩
theorem KR.call (h:KR X N w0 L v RX w)(hs:Sn X w1)(ho:∀b,b<w.heap.size→w1.heap[b]? =w.heap[b]?)(hz:w.heap.size≤w1.heap.size)(hoo:OO w1 w):KR X N w0 L v RX w1:=
 ⟨h.toKS.call hs ho hz hoo,ZZ h.ow fun b hb=>ho b (h.ow.lt b hb).2,h.nb⟩
theorem KR.put (h:KR X N w0 L v RX w){b:Nat}{o:Obj}(hb:w.heap[b]? =some o)(hN:N≤b)(hn:b∉L.map (·.1))(hv:v.ownBlock≠some b):KR X N w0 ((b,o)::L) v RX w:=
 ⟨h.toKS.put hb hN hn,h.ow,fun p hp=>by
   rcases List.mem_cons.1 hp with rfl|hp
   ·exact hv
   ·exact h.nb p hp⟩
end
noncomputable def KM:Code:=match Tryz.f81.body with
 |some (.seq _ (.seq _ (.seq _ (.seq _ e))))=>e
 |_=>.skip
def YV (h:Hp)(RX:List Int)(bh bw bt Ch gW:Nat):List (Nat×Obj):=
 [(bt,.cells #[.chan (some Ch)] 136),(Ch,.chan h.ws.length #[] false 0 0 false),(bw,.cells #[.slice (some ⟨gW,0,none⟩) h.os.length h.os.length] 24),
     (gW,.cells ((whs RX h.os.length).map (Value.int .i64)).toArray 3),(bh,.cells #[.slice h.oa h.os.length h.ocap,.slice h.ra h.rs.length h.rcap,.slice h.wa h.ws.length h.wcap,.slice h.da h.ds.length h.dcap] 27)]
def Qb1 (X:Nat→Bool)(h:Hp)(RX:List Int)(w:World)(cs:List Frame)(g:Goroutine)(w':World):Prop:=
 ∃(T:Array Value) (bh bw bt Ch gW:Nat) (xa:Option Addr) (xcap:Nat),g=G ((base 81).at ⟨T,[]⟩ [.code KM]) cs∧T.size=40∧T[1]? =some (.pointer (some ⟨bh,0,none⟩))∧T[3]? =some (.slice xa RX.length xcap)∧T[4]? =some (.pointer (some ⟨bw,0,none⟩))∧T[5]? =some (.pointer (some ⟨bt,0,none⟩))∧
  KR X w.heap.size w (YV h RX bh bw bt Ch gW) (.slice xa RX.length xcap) RX w'
def Qb0 (X:Nat→Bool)(h:Hp)(RX:List Int)(N:Nat)(w:World)(bh bw bt Wg Ch gW:Nat)(xa:Option Addr)(xcap:Nat)(cs:List Frame)(g:Goroutine)(w':World):Prop:=
 ∃(T:Array Value),g=G ((base 81).at ⟨T,[]⟩ [.code Jc,.inLoop Jc,.inBlock 0,.code Ya]) cs∧DH Wg bh bw bt xa RX.length xcap 0 T∧
  KR X N w ((Wg,Go.ConcR.wgBlock Tryz.link.tWg 0 0)::YV h RX bh bw bt Ch gW) (.slice xa RX.length xcap) RX w'
section
variable {X:Nat→Bool} {Ch0:Nat} {cs:List Frame}
theorem QdR (h:Hp)(w:World)(hS:Sn X w)(hh:Qj (emW X w) h)(hs:ZV h)(ht:∀i (hi:i<h.os.length),h.os[i].t.size≤maxLen)(hcap:∀(i:Nat) (hi:i<h.os.length),h.os[i].r.length≤h.os[i].rcap)(hn:h.os.length≤60)(hpl:Qr h.os.length (reachP h.p)):
 Qv Tryz.prog X Ch0 (Qb1 X h (reachP h.p) w cs) (G (Frame.enter Tryz.prog 81 #[h.v] .normal) cs) w:=by
 rw[enter_at _ Tryz.func81 rfl];have hF:KS X w.heap.size w [] w:=⟨KB.refl w,hS,fun b hb=>hS.out hb⟩;generalize hN:w.heap.size=N at hF;refine QL (n:=30) ?_;simp only[Tryz.f81,Hp.v];walk_nrm;u_c stepG_seq KS.rely hF;u_reg KS.rely hF;refine Goes.stop (fun w1 h1=>?_);replace hF:=KS.rely hF h1;clear h1;refine ZQ rfl (fun w2 h2=>?_);have hz:=ZW h2;replace hF:=KS.rely hF h2;clear h2;refine goes_oper_k rfl rfl (by decide) (fun K hK=>?_);go_simp;refine hK _ _ ⟨⟨by simp;omega,fun B hB e he=>?_⟩,?_⟩
 ·have hm:=mem_listed he;simp[go_sem]at hm
 clear hK K hz;replace hF:=hF.alloc #[.slice h.oa h.os.length h.ocap,.slice h.ra h.rs.length h.rcap,.slice h.wa h.ws.length h.wcap,.slice h.da h.ds.length h.dcap] 27;generalize w2.alloc (QhV #[.slice h.oa h.os.length h.ocap,.slice h.ra h.rs.length h.rcap,.slice h.wa h.ws.length h.wcap,.slice h.da h.ds.length h.dcap] 27)=w3 at hF;generalize w2.heap.size=bh at hF;refine QL (n:=30) ?_
 try walk_nrm
 u_op KS.rely hF;u_c stepG_region_end KS.rely hF;u_c stepG_seq KS.rely hF;u_reg KS.rely hF;refine Goes.stop (fun w4 h4=>?_);replace hF:=KS.rely hF h4;clear h4;refine ZQ rfl (fun w5 h5=>?_);have hz:=ZW h5;replace hF:=KS.rely hF h5;clear h5;have hl:=hF.lt QhR;have hg:=(hF.kb.bl _ QhR).2;refine goes_oper_k rfl rfl (by decide) (fun K hK=>?_);have e0:=hF.kb.cell QhR 0;have e1:=hF.kb.cell QhR 1;have e2:=hF.kb.cell QhR 2;have e3:=hF.kb.cell QhR 3;simp only[QhS,QhT,QhU]at e0 e1 e2 e3;go_simp;refine hK _ _ ⟨⟨hz,fun B hB e he=>?_⟩,?_⟩
 ·have hm:=mem_listed he;simp[go_sem,e0,e1,e2,e3]at hm;rcases hm with rfl|rfl|rfl|rfl<;>exact hF.ev hg hl false (QhW _) B hB
 clear hK K hz e0 e1 e2 e3 hl hg;refine QL (n:=5) ?_;u_in KS.rely hF;refine goes_call rfl rfl (by decide) rfl Tryz.func14 rfl rfl ⟨by u_nil,?_⟩;rw[←enter_at _ Tryz.func14 rfl];simp only[Qh1,QhX,QhZ,Act.eval,Qh2,QhS,QhU,QhT,Qh3];refine Goes.stop (fun w6 h6=>?_);replace hF:=KS.rely hF h6;clear h6
 have hh6:∀t d,Qj {emW X w6 with tape:=t,drawn:=d} h:=fun t d=>Qj.heap hh (by rw[QF,hN];show N≤(emW X w6).heap.size;rw[QF];exact hF.kb.big) fun b hb=>by
  rw[QF,hN]at hb;show(emW X w6).heap[b]? =(emW X w).heap[b]?;rw[Za,Za,hF.kb.old b hb]
 refine Ku (R:=fun v w1=>Qa w1 w6.heap.size v (reachP h.p)) (by kernel_rfl) hF.sn (fun t d=>?_) (fun v w7 w7' hE hS7 ho hz hoo hR=>?_)
 ·refine(O6 h _ (hh6 t d) hs ht hcap).mono ?_;rintro e w1 ⟨v',rfl,h1,h2⟩;rw[show({emW X w6 with tape:=t,drawn:=d}:World).heap.size=w6.heap.size from QF X w6]at h1 h2;exact⟨v',rfl,h1,h2⟩
 have hFr:KR X N w [(bh,.cells #[.slice h.oa h.os.length h.ocap,.slice h.ra h.rs.length h.rcap,.slice h.wa h.ws.length h.wcap,.slice h.da h.ds.length h.dcap] 27)] v (reachP h.p) w7:=by
  have hN6:=hF.kb.big;have hlt:=hR.lt;refine⟨hF.call hS7 ho hz hoo,Ys (ZZ hR fun b hb=>JR hE (hF.xo b (by have:=(hlt b hb).1;omega))) hN6,fun p hp e=>?_⟩;have h1:=(hlt _ e).1;have h2:=hF.lt hp;omega
 obtain⟨xa,xcap,rfl,_⟩:=hR.form;clear hF hE hS7 ho hz hoo hR hh6;have hF:=hFr;clear hFr;generalize hRX:reachP h.p=RX at hF hpl;rw[Frame.finish_at];simp only[QhS,QhU,QhT,Qh0];refine QL (n:=30) ?_;walk_nrm;u_op KR.rely hF;u_c stepG_region_end KR.rely hF;u_c stepG_seq KR.rely hF;u_reg KR.rely hF;u_op KR.rely hF;u_op KR.rely hF;refine Goes.stop (fun w8 h8=>?_);replace hF:=KR.rely hF h8;clear h8;refine ZQ rfl (fun w9 h9=>?_);have hz:=ZW h9;replace hF:=KR.rely hF h9;clear h9;have hl:=hF.toKS.lt QhR;have hg:=(hF.kb.bl _ QhR).2;refine goes_oper_k rfl rfl (by decide) (fun K hK=>?_);have e0:=hF.kb.cell QhR 0;simp only[QhS,QhT,QhU]at e0;go_simp;refine hK _ _ ⟨⟨hz,fun B hB e he=>?_⟩,?_⟩
 ·have hm:=mem_listed he;simp[go_sem,e0]at hm;subst hm;exact hF.toKS.ev hg hl false (QhW _) B hB
 clear hK K hz e0 hl hg;refine QL (n:=5) ?_;u_op KR.rely hF;u_in KR.rely hF;refine goes_call rfl rfl (by decide) rfl Tryz.func97 rfl rfl ⟨by u_nil,?_⟩;rw[←enter_at _ Tryz.func97 rfl];simp only[Qh1,QhX,QhZ,Act.eval,Qh2,QhS,QhU,QhT,Qh3];refine Goes.stop (fun w10 h10=>?_);replace hF:=KR.rely hF h10;clear h10
 have hseg:∀t d,Qi {emW X w10 with tape:=t,drawn:=d} xa RX:=fun t d=>by
  have h1:Qa {emW X w10 with tape:=t,drawn:=d} N (.slice xa RX.length xcap) RX:=ZZ hF.ow fun b hb=>by
   show(emW X w10).heap[b]? =w10.heap[b]?;exact Jj (hF.xo b (hF.ow.lt b hb).1)
  obtain⟨a,cp,e,h2,_⟩:=h1.form
  cases e
  exact h2
 refine Ku (R:=fun v w1=>∃g,v=.slice (some ⟨g,0,none⟩) h.os.length h.os.length∧Blk w1 g ((whs RX h.os.length).map (Value.int .i64)) 3∧w10.heap.size≤g) (by kernel_rfl) hF.sn (fun t d=>?_) (fun v w11 w11' hE hS11 ho hz hoo hR=>?_)
 ·refine(QbQ h.os.length RX xa xcap _ hn (hseg t d) hpl).mono ?_;rintro e w1 ⟨g,rfl,h1,h2,h3⟩;rw[show({emW X w10 with tape:=t,drawn:=d}:World).heap.size=w10.heap.size from QF X w10]at h2 h3;exact⟨_,rfl,⟨g,rfl,h1,h2⟩,h3⟩
 obtain⟨gW,rfl,hgb,hgl⟩:=hR;have hbig:=hF.kb.big;have hold:=hF.toKS.lt QhR;have hol:=hF.ow.lt;replace hF:=(hF.call hS11 ho hz hoo).put (b:=gW) (o:=.cells ((whs RX h.os.length).map (Value.int .i64)).toArray 3) ((JR hE (hF.xo gW (by omega))).trans hgb) (by omega) (by simp only[QhX,QhZ,List.mem_singleton];simp only at hold;omega) (fun e=>by have:=(hol _ e).2;omega);clear hE hS11 ho hz hoo hgb hgl hseg hbig hold hol;rw[Frame.finish_at];simp only[QhS,QhU,QhT,Qh0];refine QL (n:=5) ?_;walk_nrm;refine Goes.stop (fun w12 h12=>?_);replace hF:=KR.rely hF h12;clear h12;refine ZQ rfl (fun w13 h13=>?_);have hz:=ZW h13;replace hF:=KR.rely hF h13;clear h13;refine goes_oper_k rfl rfl (by decide) (fun K hK=>?_);go_simp;refine hK _ _ ⟨⟨by simp;omega,fun B hB e he=>?_⟩,?_⟩
 ·have hm:=mem_listed he;simp[go_sem]at hm
 clear hK K hz;replace hF:=hF.alloc #[.slice none 0 0] 24;generalize w13.alloc (QhV #[.slice none 0 0] 24)=w14 at hF;generalize w13.heap.size=bw at hF;refine QL (n:=5) ?_
 try walk_nrm
 refine Goes.stop (fun w15 hw15=>?_);replace hF:=KR.rely hF hw15;clear hw15;refine ZQ rfl (fun w16 hw16=>?_);have hz:=ZW hw16;replace hF:=KR.rely hF hw16;clear hw16;have hl:=hF.toKS.lt QhR;have hg:=(hF.kb.bl _ QhR).2;refine goes_oper_k rfl rfl (by decide) (fun K hK=>?_);have e0:=hF.kb.cell QhR 0;have e1:=hF.kb.free QhR 0;simp only[QhS,QhT,QhU]at e0;go_simp
 try(unfold stored;go_simp)
 refine hK _ _ ⟨⟨by simp;omega,fun B hB e he=>?_⟩,?_⟩
 ·have hm:=mem_listed he;simp[go_sem,storedEv,e0,e1]at hm;subst hm;exact hF.toKS.ev hg hl true (QhW _) B (by simpa using hB)
 clear hK K hz e0 e1 hl hg;replace hF:=hF.set (u':=.slice (some ⟨gW,0,none⟩) h.os.length h.os.length);generalize w16.setCell ⟨bw,0,none⟩ (.slice (some ⟨gW,0,none⟩) h.os.length h.os.length)=w17 at hF;refine QL (n:=30) ?_
 try walk_nrm
 u_c stepG_region_end KR.rely hF;u_c stepG_seq KR.rely hF;u_reg KR.rely hF;u_op KR.rely hF;refine Goes.stop (fun w18 hw18=>?_);replace hF:=KR.rely hF hw18;clear hw18;refine ZQ rfl (fun w19 hw19=>?_);have hz:=ZW hw19;replace hF:=KR.rely hF hw19;clear hw19;have hmem:(bh,QhV #[.slice h.oa h.os.length h.ocap,.slice h.ra h.rs.length h.rcap,.slice h.wa h.ws.length h.wcap,.slice h.da h.ds.length h.dcap] 27)∈[(bw,QhV #[.slice (some ⟨gW,0,none⟩) h.os.length h.os.length] 24),(gW,QhV ((whs RX h.os.length).map (Value.int .i64)).toArray 3),(bh,QhV #[.slice h.oa h.os.length h.ocap,.slice h.ra h.rs.length h.rcap,.slice h.wa h.ws.length h.wcap,.slice h.da h.ds.length h.dcap] 27)]:=by simp
 have hl:=hF.toKS.lt hmem;have hg:=(hF.kb.bl _ hmem).2;refine goes_oper_k rfl rfl (by decide) (fun K hK=>?_);have e0:=hF.kb.cell hmem 2;simp only[QhS,QhT,QhU]at e0;go_simp;refine hK _ _ ⟨⟨hz,fun B hB e he=>?_⟩,?_⟩
 ·have hm:=mem_listed he;simp[go_sem,e0]at hm;subst hm;exact hF.toKS.ev hg hl false (QhW _) B hB
 clear hK K hz e0 hl hg hmem;refine QL (n:=5) ?_
 try walk_nrm
 u_op KR.rely hF;refine Goes.stop (fun w20 hw20=>?_);replace hF:=KR.rely hF hw20;clear hw20;refine ZQ rfl (fun w21 hw21=>?_);have hz:=ZW hw21;replace hF:=KR.rely hF hw21;clear hw21
 obtain⟨i0,hi,hz0,hz1,hz2⟩:∃i0,Tryz.prog.info? 3=some i0∧i0.zero=some (.int .i64 0)∧i0.size=1∧i0.bytes=8:=by
  have h:=O8
  cases hx:Tryz.prog.info? 3 with
  |none=>rw[hx]at h;cases h
  |some i0=>
   rw[hx]at h;simp only[Option.map_some,Option.some.injEq,Prod.mk.injEq]at h;exact⟨i0,rfl,h.1,h.2.1,h.2.2⟩
 have hsw:=hs.w;have hmk:=run_makeChan (P:=Tryz.prog) (w:=w21) Tryz.underlying136 hi .i64 h.ws.length (by omega) (by rw[hz2];omega);have hme:=fun es=>events_makeChan (P:=Tryz.prog) (w:=w21) Tryz.underlying136 hi .i64 h.ws.length (by omega) (by rw[hz2];omega) es;refine goes_oper_k rfl rfl (by decide) (fun K hK=>?_);go_simp;refine hK _ _ ⟨⟨by simp;omega,fun B hB e he=>?_⟩,?_⟩
 ·have hm:=mem_listed he;simp[go_sem,hme]at hm
 clear hK K hz hmk hme hi hz0 hz1 hz2 hsw;replace hF:=hF.allocChan h.ws.length #[] false 0 0 false;generalize w21.alloc (Obj.chan h.ws.length #[] false 0 0 false)=w22 at hF;generalize w21.heap.size=Ch at hF;refine QL (n:=5) ?_
 try walk_nrm
 refine Goes.stop (fun w23 hw23=>?_);replace hF:=KR.rely hF hw23;clear hw23;refine ZQ rfl (fun w24 hw24=>?_);have hz:=ZW hw24;replace hF:=KR.rely hF hw24;clear hw24;refine goes_oper_k rfl rfl (by decide) (fun K hK=>?_);go_simp;refine hK _ _ ⟨⟨by simp;omega,fun B hB e he=>?_⟩,?_⟩
 ·have hm:=mem_listed he;simp[go_sem]at hm
 clear hK K hz;replace hF:=hF.alloc #[.chan none] 136;generalize w24.alloc (QhV #[.chan none] 136)=w25 at hF;generalize w24.heap.size=bt at hF;refine QL (n:=5) ?_
 try walk_nrm
 refine Goes.stop (fun w26 hw26=>?_);replace hF:=KR.rely hF hw26;clear hw26;refine ZQ rfl (fun w27 hw27=>?_);have hz:=ZW hw27;replace hF:=KR.rely hF hw27;clear hw27;have hl:=hF.toKS.lt QhR;have hg:=(hF.kb.bl _ QhR).2;refine goes_oper_k rfl rfl (by decide) (fun K hK=>?_);have e0:=hF.kb.cell QhR 0;have e1:=hF.kb.free QhR 0;simp only[QhS,QhT,QhU]at e0;go_simp
 try(unfold stored;go_simp)
 refine hK _ _ ⟨⟨by simp;omega,fun B hB e he=>?_⟩,?_⟩
 ·have hm:=mem_listed he;simp[go_sem,storedEv,e0,e1]at hm;subst hm;exact hF.toKS.ev hg hl true (QhW _) B (by simpa using hB)
 clear hK K hz e0 e1 hl hg;replace hF:=hF.set (u':=.chan (some Ch));generalize w27.setCell ⟨bt,0,none⟩ (.chan (some Ch))=w28 at hF;refine QL (n:=30) ?_
 try walk_nrm
 u_c stepG_region_end KR.rely hF;refine Goes.stop (fun w29 h29=>.stop ?_);replace hF:=KR.rely hF h29;rw[←hN]at hF;exact⟨_,bh,bw,bt,Ch,gW,xa,xcap,rfl,rfl,rfl,rfl,rfl,rfl,hF⟩
theorem QdS {X':Nat→Bool}{h:Hp}{RX:List Int}{N:Nat}{w0 w:World}{T:Array Value}{bh bw bt Ch gW:Nat}{xa:Option Addr}{xcap:Nat}(hT:T.size=40)(t1:T[1]? =some (.pointer (some ⟨bh,0,none⟩)))(t3:T[3]? =some (.slice xa RX.length xcap))(t4:T[4]? =some (.pointer (some ⟨bw,0,none⟩)))(t5:T[5]? =some (.pointer (some ⟨bt,0,none⟩)))
 (hF:KR X N w0 (YV h RX bh bw bt Ch gW) (.slice xa RX.length xcap) RX w):
 Qv Tryz.prog X' Ch0 (Qb0 X h RX N w0 bh bw bt w.heap.size Ch gW xa xcap cs) (G ((base 81).at ⟨T,[]⟩ [.code KM]) cs) w:=by
 obtain⟨v0,v1,v2,v3,v4,v5,v6,v7,v8,v9,v10,v11,v12,v13,v14,v15,v16,v17,v18,v19,v20,v21,v22,v23,v24,v25,v26,v27,v28,v29,v30,v31,v32,v33,v34,v35,v36,v37,v38,v39,rfl⟩:=UJ T hT;simp only[QhS,QhT,QhU,Option.some.injEq]at t1 t3 t4 t5;subst t1 t3 t4 t5;have hZ:w.heap.size=w.heap.size:=rfl;generalize hZ':w.heap.size=Z at hZ⊢;have hF:KR X N w0 (YV h RX bh bw bt Ch gW) (.slice xa RX.length xcap) RX w∧w.heap.size=Z:=⟨hF,hZ'⟩;clear hZ hZ';have rel:∀ {a b:World},(KR X N w0 (YV h RX bh bw bt Ch gW) (.slice xa RX.length xcap) RX a∧a.heap.size=Z)→AtRel a b→(KR X N w0 (YV h RX bh bw bt Ch gW) (.slice xa RX.length xcap) RX b∧b.heap.size=Z):=fun h r=>⟨h.1.rely r,by obtain⟨d,rfl⟩:=r;exact h.2⟩;simp only[KM,Tryz.f81];refine QL (n:=30) ?_;u_c stepG_seq rel hF;u_reg rel hF;refine Goes.stop (fun w29 h29=>?_);replace hF:=rel hF h29;clear h29;refine ZQ rfl (fun w30 h30=>?_);have hz:=ZW h30;replace hF:=rel hF h30;clear h30 rel;obtain⟨hF,hZ⟩:=hF;refine goes_oper_k rfl rfl (by decide) (fun K hK=>?_);go_simp;refine hK _ _ ⟨⟨by simp;omega,fun B hB e he=>?_⟩,?_⟩
 ·have hm:=mem_listed he;simp[go_sem]at hm
 clear hK K hz;replace hF:=hF.alloc #[.int .u64 0,.int .u32 0] 145
 try rw[hZ]at hF
 generalize w30.alloc (QhV #[.int .u64 0,.int .u32 0] 145)=w31 at hF
 try rw[hZ]
 clear hZ;refine QL (n:=30) ?_
 try walk_nrm
 u_c stepG_region_end KR.rely hF;u_c stepG_seq KR.rely hF;u_c stepG_seq KR.rely hF;u_reg KR.rely hF;u_op KR.rely hF;u_op KR.rely hF;u_op KR.rely hF;u_c stepG_region_end KR.rely hF;u_c stepG_block KR.rely hF;u_c stepG_loop KR.rely hF;refine Goes.stop (fun w32 h32=>.stop ?_);replace hF:=KR.rely hF h32;exact⟨_,rfl,⟨rfl,rfl,rfl,rfl,rfl,rfl,rfl,rfl⟩,hF⟩
end
end Co
namespace Co
open Go.Conc Go.ConcN Go.RowKit Go.Conc.Lib Go.ConcR.Gen Go.ConcN.Gen
open Go.ConcR (KK wgBlock WgAt stA smA rd wr mk Payload Aside2 DC0 ofEvent_cell)
set_option linter.unusedSimpArgs false
section
variable [Payload] {S:Ph} {w0:World} {bh bw bt:Nat} {wa:Option Addr} {wcap:Nat} {ws:List (Int×Int)} {gW:Nat} {wh:List Int} {xa:Option Addr} {xcap:Nat} {X:List Int} {oa:Option Addr} {ocap:Nat} {ks:List Int} {Anch:Goroutine→World→Prop}
theorem QdU (hP:S.P=Tryz.prog)(hty:S.ty=Tryz.link.tWg)(hSB:∀b,S.SB b→(b<S.Low∧b≠S.Wg∧b≠S.Ch)∨b=S.Wg)(hD:Dat S w0 bh bw bt wa wcap ws gW wh)(hC:Vd S w0 bh xa X oa ocap ks){K0:List Item}{cs:List Frame}{i:Nat}(hi:i<X.length){p q:Int}(hx:X[i]=p)(hq:ks.getD p.toNat 0=q)
 {s bd m bd1:Nat}{rest rest1:List (List Value)}(h1:q≠4→m=s+1∧bd1=bd∧rest1=rest)(h2:q=4→m=s+7∧bd1=bd+(hs p wh ws+1+4+8)∧rest1=Jy p wh 0 ws::rest)
 (hH:∀T,DH S.Wg bh bw bt xa X.length xcap (i+1) T→∀own w,CF S w0 own w→S.Wg∉own→Yw S Anch s bd own rest 0 0 (G ((base 81).at ⟨T,[]⟩ (.code Jc:: .inLoop Jc:: .inBlock 0::K0)) cs) w)
 {T:Array Value}(hT:DH S.Wg bh bw bt xa X.length xcap i T){own:List Nat}{w:World}(hF:CF S w0 own w)(hWo:S.Wg∉own):
 Yw S Anch (m+6) bd1 own rest1 0 0 (G ((base 81).at ⟨T,[]⟩ (.code Jc:: .inLoop Jc:: .inBlock 0::K0)) cs) w:=by
 obtain⟨v0,v1,v2,v3,v4,v5,v6,v7,v8,v9,v10,v11,v12,v13,v14,v15,v16,v17,v18,v19,v20,v21,v22,v23,v24,v25,v26,v27,v28,v29,v30,v31,v32,v33,v34,v35,v36,v37,v38,v39,rfl⟩:=UJ T hT.sz;obtain⟨_,t1,t4,t5,t6,t20,t21,t22⟩:=hT;simp only[QhS,QhT,QhU,Option.some.injEq]at t1 t4 t5 t6 t20 t21 t22;subst t1 t4 t5 t6 t20 t21 t22;obtain⟨b,off,rfl,hb,c1⟩:=hC.sx i hi;obtain⟨hp0,hpn⟩:=hC.inr i hi;rw[hx]at c1 hp0 hpn;have hnx:=hC.nx;have hbig:=hC.big;have ohb:=hC.ohb;have chb:=hC.hb;obtain⟨pn,rfl⟩:∃pn:Nat,p=pn:=⟨p.toNat,by omega⟩;have hpn':pn<ks.length:=by omega
 simp only[Int.toNat_natCast]at hq;obtain⟨bo,oo,hoa,hbo,c2⟩:=hC.so pn hpn';have ew:ks.getD pn 0=ks[pn]:=by simp[List.getD,List.getElem?_eq_getElem hpn']
 rw[←ew,hq]at c2;clear ew hq hx hC;subst hoa;have hlt:(i:Int)<(X.length:Int):=by omega
 have hi0:(0:Int)≤(i:Int):=by omega
 have hkw:IntKind.i64.wrap ((i:Int)+1)=((i+1:Nat):Int):=by rw[IntKind.wrap_i64];omega
 refine⟨rfl,.inl ?_⟩;rw[hP];simp only[Jc,Tryz.f81]at hH⊢;rw[stepG_seq];simp only[goes_go];refine⟨own,Zf.refl own w,by simp,?_⟩;rw[Z3,hP];refine⟨50,?_⟩;u_reg CF.rely hF;u_op CF.rely hF;u_c stepG_region_end CF.rely hF;u_c stepG_seq CF.rely hF
 u_cond true CF.rely hF
 u_c stepG_skip CF.rely hF;u_c stepG_seq CF.rely hF;u_c stepG_block CF.rely hF;u_c stepG_seq CF.rely hF;u_reg CF.rely hF;u_op CF.rely hF;refine Goes.stop (fun w1 hw1=>?_);replace hF:=CF.rely hF hw1;clear hw1;refine⟨rfl,.inl ?_⟩;rw[hP];refine goes_oper_k rfl rfl (by decide) (fun K hK=>?_);have e1:=(hF.cell hb _).trans c1;go_simp;refine hK _ _ ⟨own,Zf.refl _ _,fun e he=>?_,?_⟩
 ·have hm:=mem_listed he;simp[go_sem,e1]at hm;subst hm;exact⟨_,_,rfl,hb.2.2.2,.inr ⟨hb.1,rfl⟩⟩
 clear e1;clear hK K;rw[Z3,hP];refine⟨40,?_⟩;refine Goes.stop (fun w1 hw1=>?_);replace hF:=CF.rely hF hw1;clear hw1;refine⟨rfl,.inl ?_⟩;rw[hP];refine goes_oper_k rfl rfl (by decide) (fun K hK=>?_);go_simp;refine hK _ _ ⟨w1.heap.size::own,QbA own w1 _,fun e he=>?_,?_⟩
 ·have hm:=mem_listed he;simp[go_sem]at hm
 clear hK K;obtain⟨bp,hbp⟩:∃bp,bp=w1.heap.size:=⟨_,rfl⟩
 replace hF:CX S w0 own bp 0 (w1.alloc (QhV #[Value.int IntKind.i64 0] 3)):=
  ⟨fun b h1 h2 h3=>by rw[Below.heap_alloc _ _ _ (hF.lt hbig (.inl ⟨h1,h2,h3⟩))];exact hF.low b h1 h2 h3,let⟨st,sm,hl⟩:=hF.live;⟨st,sm,hl.of_block (Below.heap_alloc _ _ _ (hF.lt hbig (.inr rfl)))⟩,fun b hb=>by have:=hF.owk b hb;simp;omega,
   by rw[hbp];exact heap_alloc_new w1 _,fun b hb=>by have:=hF.lt hbig hb;omega,fun hs=>by have:=hF.lt hbig (hSB _ hs);omega,fun hm=>by have:=hF.owk _ hm;omega⟩
 rw[Z3,hP];refine⟨20,?_⟩;rw[←hbp];clear hbp;refine Goes.stop (fun w1 hw1=>?_);replace hF:=CX.rely hF hw1;clear hw1;refine⟨rfl,.inl ?_⟩;rw[hP];refine goes_oper_k rfl rfl (by decide) (fun K hK=>?_);have e1:=hF.c0;have e3:=hF.f0;go_simp
 try(unfold stored;go_simp)
 refine hK _ _ ⟨bp::own,Qhx QhR _,fun e he=>?_,?_⟩
 ·have hm:=mem_listed he;simp[go_sem,storedEv,e1,e3]at hm;subst hm;exact⟨_,_,rfl,hF.ns,.inl QhR⟩
 clear e1 e3;replace hF:=hF.set (p':=pn);clear hK K;rw[Z3,hP];refine⟨40,?_⟩;u_c stepG_region_end CX.rely hF;u_c stepG_seq CX.rely hF;u_c stepG_seq CX.rely hF;u_reg CX.rely hF;u_op CX.rely hF;refine Goes.stop (fun w1 hw1=>?_);replace hF:=CX.rely hF hw1;clear hw1;refine⟨rfl,.inl ?_⟩;rw[hP];refine goes_oper_k rfl rfl (by decide) (fun K hK=>?_);have e1:=(hF.cell ohb 0).trans chb;go_simp;refine hK _ _ ⟨bp::own,Zf.refl _ _,fun e he=>?_,?_⟩
 ·have hm:=mem_listed he;simp[go_sem,e1]at hm;subst hm;exact⟨_,_,rfl,ohb.2.2.2,.inr ⟨ohb.1,rfl⟩⟩
 clear e1;clear hK K;rw[Z3,hP];refine⟨40,?_⟩;refine Goes.stop (fun w1 hw1=>?_);replace hF:=CX.rely hF hw1;clear hw1;refine⟨rfl,.inl ?_⟩;rw[hP];refine goes_oper_k rfl rfl (by decide) (fun K hK=>?_);have e1:=hF.c0;go_simp;refine hK _ _ ⟨bp::own,Zf.refl _ _,fun e he=>?_,?_⟩
 ·have hm:=mem_listed he;simp[go_sem,e1]at hm;subst hm;exact⟨_,_,rfl,hF.ns,.inl QhR⟩
 clear e1;clear hK K;rw[Z3,hP];refine⟨40,?_⟩;u_op CX.rely hF;u_op CX.rely hF;refine Goes.stop (fun w1 hw1=>?_);replace hF:=CX.rely hF hw1;clear hw1;refine⟨rfl,.inl ?_⟩;rw[hP];refine goes_oper_k rfl rfl (by decide) (fun K hK=>?_);have e1:=(hF.cell hbo _).trans c2;go_simp;refine hK _ _ ⟨bp::own,Zf.refl _ _,fun e he=>?_,?_⟩
 ·have hm:=mem_listed he;simp[go_sem,e1]at hm;subst hm;exact⟨_,_,rfl,hbo.2.2.2,.inr ⟨hbo.1,rfl⟩⟩
 clear e1;clear hK K
 have hWp:S.Wg∉bp::own:=fun hm=>by
  rcases List.mem_cons.1 hm with h|h
  ·exact hF.ne _ (.inr rfl) h
  ·exact hWo h
 by_cases hq4:q=4
 ·subst hq4;obtain⟨rfl,rfl,rfl⟩:=h2 rfl;clear h1 h2;rw[Z3,hP];refine⟨40,?_⟩;u_op CX.rely hF;u_c stepG_region_end CX.rely hF
  u_cond false CX.rely hF
  u_c stepG_skip CX.rely hF;u_c stepG_seq CX.rely hF;u_reg CX.rely hF;refine Goes.stop (fun w1 hw1=>?_);replace hF:=CX.rely hF hw1;clear hw1;refine⟨rfl,.inl ?_⟩;rw[hP];refine goes_call rfl rfl (by decide) rfl Tryz.func108 rfl rfl ⟨bp::own,Zf.refl _ _,by simp,?_⟩;rw[←enter_at _ Tryz.func108 rfl];simp only[Qh1,QhX,QhZ,Act.eval,Qh2,QhS,QhU,QhT,Qh3];refine Qb8 (s:=s+1) (k:=12) hP hty hF.live (fun w' hr=>?_) (fun w' hr=>?_) hWp
  ·replace hF:=CX.rely hF hr;clear hr;rw[Frame.finish_at,hP];simp only[QhS,QhT,Qh0];walk_nrm;u_c stepG_region_end CX.rely hF;u_reg CX.rely hF;u_op CX.rely hF;refine Goes.stop (fun w1 hw1=>?_);replace hF:=CX.rely hF hw1;clear hw1;have hni:=hF.ni;have hte:=Qbo (own:=[bp]) hP hty (fun b hb=>(hSB b hb).imp id .inl) hF.ns hD QhR hF.tf;refine⟨rfl,.inr (.inr (.inr ⟨rfl,rfl,?_⟩))⟩;apply Exists.intro;refine⟨born Tryz.prog (Yn S.Wg bp bh bw bt),[bp],own,Jy (pn:Int) wh 0 ws,rest,hs (pn:Int) wh ws+1+4,bd,rfl,rfl,fun x hx=>by rw[List.mem_singleton.1 hx];exact QhR,fun x hx=>QhY _ hx,fun x hx=>by rw[List.mem_singleton.1 hx];exact hni,?_,hte,?_⟩
   ·rw[hP];rw[stepG_spawn (d:=Yn S.Wg bp bh bw bt) (w':=w1) (f:=.func 109) (c:=#[.pointer (some ⟨S.Wg,0,none⟩),.pointer (some ⟨bp,0,none⟩),.pointer (some ⟨bh,0,none⟩),.pointer (some ⟨bw,0,none⟩),.pointer (some ⟨bt,0,none⟩)]) rfl rfl (by decide) (by simp[go_sem,Yn,Deferred.ofValue]) rfl];generalize hL:listed _ _ _ _ _=Lx
    have hLx:Lx=#[]:=by
     rw[←hL];simp[listed,go_sem,seen,Deferred.ofValue];rfl
    subst hLx;rfl
   ·rw[Z3,hP];refine⟨40,?_⟩;replace hF:=hF.cf0;walk_nrm;u_c stepG_region_end CF.rely hF;u_c stepG_inBlock CF.rely hF;u_reg CF.rely hF;u_op CF.rely hF;u_op CF.rely hF;u_c stepG_region_end CF.rely hF;u_c stepG_inLoop CF.rely hF;exact Goes.stop (fun w9 h9=>hH _ ⟨rfl,rfl,rfl,rfl,rfl,rfl,rfl,rfl⟩ _ _ (CF.rely hF h9) hWo)
  ·replace hF:=CX.rely hF hr;clear hr;rw[Frame.finish_at,hP];simp only[QhS,QhT,Qh0];walk_nrm;refine Goes.stop (fun w1 hw1=>?_);replace hF:=CX.rely hF hw1;clear hw1;refine⟨rfl,.inl ?_⟩;rw[hP,stepG_region_end];simp only[goes_go];refine⟨bp::own,Zf.refl _ _,by simp,?_⟩;rw[Z3,hP];refine⟨40,?_⟩;u_reg CX.rely hF;u_op CX.rely hF;refine Goes.stop (fun w1 hw1=>?_);replace hF:=CX.rely hF hw1;clear hw1;have hni:=hF.ni;have hte:=Qbo (own:=[bp]) hP hty (fun b hb=>(hSB b hb).imp id .inl) hF.ns hD QhR hF.tf;refine⟨rfl,.inr (.inr (.inr ⟨rfl,rfl,?_⟩))⟩;apply Exists.intro;refine⟨born Tryz.prog (Yn S.Wg bp bh bw bt),[bp],own,Jy (pn:Int) wh 0 ws,rest,hs (pn:Int) wh ws+1+4,bd,rfl,rfl,fun x hx=>by rw[List.mem_singleton.1 hx];exact QhR,fun x hx=>QhY _ hx,fun x hx=>by rw[List.mem_singleton.1 hx];exact hni,?_,hte,?_⟩
   ·rw[hP];rw[stepG_spawn (d:=Yn S.Wg bp bh bw bt) (w':=w1) (f:=.func 109) (c:=#[.pointer (some ⟨S.Wg,0,none⟩),.pointer (some ⟨bp,0,none⟩),.pointer (some ⟨bh,0,none⟩),.pointer (some ⟨bw,0,none⟩),.pointer (some ⟨bt,0,none⟩)]) rfl rfl (by decide) (by simp[go_sem,Yn,Deferred.ofValue]) rfl];generalize hL:listed _ _ _ _ _=Lx
    have hLx:Lx=#[]:=by
     rw[←hL];simp[listed,go_sem,seen,Deferred.ofValue];rfl
    subst hLx;rfl
   ·rw[Z3,hP];refine⟨40,?_⟩;replace hF:=hF.cf0;walk_nrm;u_c stepG_region_end CF.rely hF;u_c stepG_inBlock CF.rely hF;u_reg CF.rely hF;u_op CF.rely hF;u_op CF.rely hF;u_c stepG_region_end CF.rely hF;u_c stepG_inLoop CF.rely hF;exact Goes.stop (fun w9 h9=>hH _ ⟨rfl,rfl,rfl,rfl,rfl,rfl,rfl,rfl⟩ _ _ (CF.rely hF h9) hWo)
 ·obtain⟨rfl,rfl,rfl⟩:=h1 hq4;clear h1 h2;have hq1:decide (q=4)=false:=decide_eq_false hq4;have hq2:(q ==4)=false:=by simp[hq4]
  have hq3:(q !=4)=true:=by simp[hq4]
  rw[Z3,hP];refine⟨40,?_⟩;u_op CX.rely hF;u_c stepG_region_end CX.rely hF
  u_cond true CX.rely hF
  u_exit CX.rely hF
  u_reg CX.rely hF;u_op CX.rely hF;u_op CX.rely hF;u_c stepG_region_end CX.rely hF;u_c stepG_inLoop CX.rely hF;exact Goes.stop (fun w9 h9=>hH _ ⟨rfl,rfl,rfl,rfl,rfl,rfl,rfl,rfl⟩ _ _ (CX.rely hF h9).cf hWp)
end
end Co
end Go.Proofs.YtcpnkpogebjieaaGreat
