/- The program's own coming to: from one object. -/
import Derived.Test.YtcpnkpogebjieaaGreatS13ImplOk3
import Derived.Stop.RegionWithIn
import Derived.Test.YtcpnkpogebjieaaGreatS10Vc
import Derived.Test.YtcpnkpogebjieaaGreatS11Rs3
import Derived.Test.YtcpnkpogebjieaaGreatS12SpecOk4
open Go.Value renaming slice→QhR,int→QhW,ownBlock→QhZ
open Nat renaming le_refl→QhS,zero_le→QhX
open Go.Obj renaming cells→QhT
open Or renaming inl→QhU,inr→QhV
open List renaming getElem?_cons_zero→QhY,getElem?_cons_succ→Qh0,take_of_length_le→Qh1,take_succ_eq_append_getElem→Qh2
set_option maxHeartbeats 4000000
set_option maxRecDepth 100000
namespace Go.Proofs.YtcpnkpogebjieaaGreat
section
open Go.RowKit
theorem Qhs (da:Option Addr)(dcap:Nat)(ds:List (Int×Int))(x:Int)(w:World)(hd:Qz w da ds)(hl:ds.length≤1048576):
 Calls Cut.prog 120 #[.slice da ds.length dcap,.int .i64 x] w fun e w'=>∃v',e=.returned v'∧Qa w' w.heap.size v' (flt ds x)∧Below w.heap.size w w':=by
 obtain⟨i0,hi',hz0,hz1,hz2⟩:=info_parts Je;go_enter (Cut.func_of Tryz.func120 rfl),Tryz.ntmps120;go_wp2;go_loopw [5,7,10] (fun v _ i wr=>∃k:Nat,k≤ds.length∧i=.int .i64 k∧Qa wr w.heap.size v (flt (ds.take k) x)∧Below w.heap.size w wr) (fun _ _ i _=>ds.length-(intOf i).toNat)
 case atStart=>exact⟨0,QhX _,rfl,World.ownsRow_nil _ _ _ _,Below.refl _ _⟩
 case round=>
  obtain⟨k,hk,rfl,hown,hb⟩:=hrel;by_cases hlt:k<ds.length
  ·obtain⟨b5,off5,rfl,hb5,e1,e2⟩:=hd.get hlt;have d1:=(hb.cell (p:=⟨b5,off5+k*2,none⟩) hb5).trans e1;have d2:=(hb.cell (p:=⟨b5,off5+k*2+1,none⟩) hb5).trans e2;clear e1 e2;have HF:=O1 ds x k hlt;have hfl:=O0 ds x k;have hA:Below wr.heap.size wr (wr.alloc (QhT #[QhW .i64 ds[k].1,QhW .i64 ds[k].2] 40)):=(Below.refl _ _).alloc (QhS _) _;have hownA:=hown.below hA (QhS _);have hbA:=hb.trans (hA.mono hb.size);obtain⟨va,vcap,rfl,-⟩:=hown.form;by_cases hm:(ds[k].1 ==x)=true
   ·rw[if_pos hm]at HF;have HF':Hid (flt (ds.take (k+1)) x=flt (ds.take k) x++ [ds[k].2]):=HF;clear HF;have hvA:((wr.alloc (QhT #[QhW .i64 ds[k].1,QhW .i64 ds[k].2] 40)).alloc (QhT #[QhW .i64 ds[k].2] 3)).ownsRow w.heap.size 3 1 (.slice va (flt (ds.take k) x).length vcap) (flt (ds.take k) x).length ((flt (ds.take k) x).map (QhW .i64)):=World.ownsRow.alloc hownA _;have hrow:=fun k' h'=>(hown.lt k' h').1;have hbs:=hb.size;go_wp2_with (at_builtin;refine wpList_append_own_at _ rfl _ _ 24 rfl w.heap.size 3 i0 (.int .i64 0) 1 8 ((Cut.under_eq 24).trans Tryz.underlying24) hi' hz0 hz1 hz2 rfl (by decide) _ _ _ rfl hvA ⟨wr.heap.size+1,0,none⟩ 1 1 [.int .i64 ds[k].2] rfl rfl ?c1 ?c2 ?c3 ?c4 ?c5 ?_)
    case c1=>
     intro j u hj
     match j,hj with
     |0,hj=>simp at hj;subst hj;simp[Addr.add]
    case c2=>intro u hu;simp at hu;subst hu;rfl
    case c3=>unfold maxLen;omega
    case c4=>omega
    case c5=>simp;omega
    intro v' w2 hown2 hgr _ _;have hA2:Below wr.heap.size wr ((wr.alloc (QhT #[QhW .i64 ds[k].1,QhW .i64 ds[k].2] 40)).alloc (QhT #[QhW .i64 ds[k].2] 3)):=hA.alloc hA.size _;have hb2:Below w.heap.size w w2:=(hb.trans (hA2.mono hb.size)).trans (QJ hgr (Nat.le_trans hb.size hA2.size) hrow)
    have hown3:Hid (Qa w2 w.heap.size v' (flt (ds.take (k+1)) x)):=by
     show Qa _ _ _ _;rw[HF'.out];unfold Qa;simpa using hown2
    clear hown2 hgr hA hA2 hvA hrow hownA hbA;go_wp2;go_roundw
    case rel=>exact⟨k+1,by omega,by go_num,hown3.out,hb2⟩
    case measure=>simp[intOf];omega
   ·rw[if_neg hm]at HF;have hm':(ds[k].1 ==x)=false:=by simpa using hm
    have HF':Hid (Qa (wr.alloc (QhT #[QhW .i64 ds[k].1,QhW .i64 ds[k].2] 40)) w.heap.size (QhR va (flt (ds.take k) x).length vcap) (flt (ds.take (k+1)) x)):=by
     show Qa _ _ _ _;rw[HF];exact hownA
    clear HF hm;go_wp2;go_roundw
    case rel=>exact⟨k+1,by omega,by go_num,HF'.out,hbA⟩
    case measure=>simp[intOf];omega
  ·have ek:ds.take k=ds:=Qh1 (by omega);rw[ek]at hown;clear ek;go_wp2;go_ret;exact⟨_,rfl,hown,hb⟩
theorem QdM (l:List Int)(h:l.length=2)(h1:1<l.length):l.drop 1=[l[1]]:=by
 match l,h with
 | [y,z],_=>simp
theorem QeK {k:Int}{t:ByteArray}{n:Nat}(h:QU k t n=true):(k=1∧n=0)∨(k=2∧t.size=0)∨(k=3∧t.size=0∧n=2)∨(k=4∧t.size=0∧n=0):=by
 unfold QU at h;split at h
 ·simp only[Bool.and_eq_true,decide_eq_true_eq]at h;exact QhU ⟨by assumption,h.2⟩
 ·split at h
  ·simp only[Bool.and_eq_true,decide_eq_true_eq]at h;exact QhV (QhU ⟨by assumption,h.1⟩)
  ·split at h
   ·simp only[Bool.and_eq_true,decide_eq_true_eq]at h;exact QhV (QhV (QhU ⟨by assumption,h.1,h.2⟩))
   ·split at h
    ·simp only[Bool.and_eq_true,decide_eq_true_eq]at h;exact QhV (QhV (QhV ⟨by assumption,h.1,h.2⟩))
    ·simp at h
theorem Qe8 (h:Hp)(x:Int)(w:World)(hh:Qj w h)(hs:ZV h)(h0:0≤x)(h1:x<h.os.length)(hok:∀i (hi:i<h.os.length),QU h.os[i].k h.os[i].t h.os[i].r.length=true):
 Calls Cut.prog 94 #[h.v,.int .i64 x] w fun e w'=>∃v,e=.returned v∧∃na ncap,PX w w' h v (nextP (h.os.map Ob.p) h.ds x) na ncap:=by
 obtain⟨oa,ocap,os,ra,rcap,rs,wa,wcap,ws,da,dcap,ds⟩:=h;obtain⟨ho,-,-,hd⟩:=hh;obtain⟨so,soo,-,-,sd⟩:=hs;simp only[Hp.v]at *;have hi:x.toNat<os.length:=by omega
 have HN:=YY (os:=os) (ds:=ds) rfl hi;have hk:=QeK (hok _ hi);obtain⟨b,off,rfl,hbw,c1,c2,c3⟩:=ho.get hi;have hsg:=ho.2 _ hi;have Hav:Hid (∀r,QM (⟨some ⟨b,off,none⟩,ocap,os,ra,rcap,rs,wa,wcap,ws,da,dcap,ds⟩:Hp) r→AvI os[x.toNat].ra os[x.toNat].r.length r):=fun r q=>q.aoo _ hi;clear hok soo;generalize nextP (os.map Ob.p) ds x=NX at HN⊢;have hB0:Below w.heap.size w (w.alloc (QhT #[QhR (some ⟨b,off,none⟩) os.length ocap,QhR ra rs.length rcap,QhR wa ws.length wcap,QhR da ds.length dcap] 27)):=(Below.refl _ _).alloc (QhS _) _;have hK0:=Blk.new w [QhR (some ⟨b,off,none⟩) os.length ocap,QhR ra rs.length rcap,QhR wa ws.length wcap,QhR da ds.length dcap] 27;have cT:=Qbp os[x.toNat].k os[x.toNat].t os[x.toNat].ra os[x.toNat].r.length os[x.toNat].rcap os[x.toNat].r _ rfl (hsg.below hB0 (QhS _));rcases hk with⟨k1,kn⟩|⟨k2,kt⟩|⟨k3,kt,kn⟩|⟨k4,kt,kn⟩
 ·have hr:os[x.toNat].r=[]:=List.eq_nil_of_length_eq_zero kn;rw[k1]at HN;rw[hr]at HN;simp at HN;subst HN;have eV:Q6 os[x.toNat].k os[x.toNat].t os[x.toNat].ra os[x.toNat].r.length os[x.toNat].rcap os[x.toNat].r=.iface 106 (.agg #[.string os[x.toNat].t]):=by simp[Q6,k1,kn]
  rw[eV]at cT;clear eV k1 kn hr;have f1:=Qg5;have f2:=Qg8;have f3:=Qg7;go_enter (Cut.func_of Tryz.func94 rfl),Tryz.ntmps94;go_wp2_with fail;refine cT.mono ?_;rintro e w1 ⟨rfl,hb1⟩;have hB1:=hB0.trans (hb1.mono hB0.size);clear cT hb1;go_wp2;go_ret;exact⟨_,rfl,none,0,⟨rfl,fun hm=>by simp at hm,hB1,fun r _ _ hm=>by simp at hm⟩⟩
 ·rw[k2]at HN;simp at HN;subst HN;have eV:Q6 os[x.toNat].k os[x.toNat].t os[x.toNat].ra os[x.toNat].r.length os[x.toNat].rcap os[x.toNat].r=.iface 108 (.agg #[.slice os[x.toNat].ra os[x.toNat].r.length os[x.toNat].rcap]):=by simp[Q6,k2,kt]
  rw[eV]at cT;clear eV k2 kt;have f1:=Qbg;go_enter (Cut.func_of Tryz.func94 rfl),Tryz.ntmps94;go_wp2_with fail;refine cT.mono ?_;rintro e w1 ⟨rfl,hb1⟩;have hB1:=hB0.trans (hb1.mono hB0.size);clear cT hb1;go_wp2;go_ret;have hB2:=hB1.alloc hB1.size (QhT #[QhR os[x.toNat].ra os[x.toNat].r.length os[x.toNat].rcap] 108);exact⟨_,rfl,os[x.toNat].ra,os[x.toNat].rcap,⟨rfl,hsg.below hB2 (QhS _),hB2,fun r q _=>Hav.out r q⟩⟩
 ·have q1:1<os[x.toNat].r.length:=by omega
  rw[if_pos k3]at HN
  have HN':Hid (NX=[os[x.toNat].r[1]]):=by
   show _=_;rw[HN];exact QdM _ kn q1
  have eV:Q6 os[x.toNat].k os[x.toNat].t os[x.toNat].ra os[x.toNat].r.length os[x.toNat].rcap os[x.toNat].r=.iface 110 (.agg #[.int .i64 (os[x.toNat].r.getD 0 0),.int .i64 os[x.toNat].r[1]]):=by simp[Q6,k3,kt,kn]
  rw[eV]at cT;clear eV k3 kt kn HN;have f1:=Qbk;have f2:=Qbl;go_enter (Cut.func_of Tryz.func94 rfl),Tryz.ntmps94;go_wp2_with fail;refine cT.mono ?_;rintro e w1 ⟨rfl,hb1⟩;have hB1:=hB0.trans (hb1.mono hB0.size);clear cT hb1;go_wp2;go_ret;refine⟨_,rfl,some ⟨w1.heap.size+1,0,none⟩,1,⟨?_,?_,?_,fun r _ hr hm y hy=>?_⟩⟩
  ·rw[HN'.out];rfl
  ·rw[HN'.out];intro _;refine⟨w1.heap.size+1,0,rfl,by simp,fun i hi=>?_⟩;simp at hi;subst hi;simp
  ·exact(hB1.alloc hB1.size _).alloc (by simp;have:=hB1.size;omega) _
  ·simp at hy;subst hy;intro e;have h2:w1.heap.size+1<w.heap.size:=hr _ e.symm;have:=hB1.size;omega
 ·rw[k4]at HN;simp at HN;have HN':Hid (NX=flt ds x):=HN;have eV:Q6 os[x.toNat].k os[x.toNat].t os[x.toNat].ra os[x.toNat].r.length os[x.toNat].rcap os[x.toNat].r=.iface 112 (.agg #[]):=by simp[Q6,k4,kt,kn]
  rw[eV]at cT;clear eV k4 kt kn HN;have f1:=Qbh;have f2:=Qbj;have f3:=Qbi;go_enter (Cut.func_of Tryz.func94 rfl),Tryz.ntmps94;go_wp2_with fail;refine cT.mono ?_;rintro e w1 ⟨rfl,hb1⟩;have hB1:=hB0.trans (hb1.mono hB0.size);have hK1:=hK0.below hb1 hK0.lt;have q3:=hK1.cell 3;simp only[QhY,Qh0]at q3;have hlt1:=hK1.lt;have hB2:=hB1.alloc hB1.size (QhT #[] 112);have cD:=Qhs da dcap ds x (w1.alloc (QhT #[] 112)) (hd.below hB2 (QhS _)) sd;clear cT hb1;go_wp2_with fail;refine cD.mono ?_;rintro e w2 ⟨v',rfl,hown,hb2⟩;have hB3:=hB2.trans (hb2.mono hB2.size);obtain⟨va,vcap,rfl,hseg,-⟩:=hown.form;have hrow:=fun k' h'=>(hown.lt k' h').1;clear cD;go_wp2;go_ret;refine⟨_,rfl,va,vcap,⟨?_,?_,hB3,fun r _ hr hm y hy=>?_⟩⟩
  ·rw[HN'.out];rfl
  ·rw[HN'.out];exact hseg
  ·subst hy;intro e;have h2:=hrow y.block rfl;have h3:=hr y.block e.symm;have:=hB2.size;omega
end
section
open Go.RowKit Go.Shelf
attribute [local go_sem] Oper.semAt_some
theorem Qa.same {w w':World}{base:Nat}{v:Value}{zs:List Int}(h:Qa w base v zs)(hs:∀k,v.ownBlock=some k→w'.heap[k]? =w.heap[k]?):Qa w' base v zs:=by
 refine⟨h.1,?_⟩;rcases h.2 with h1|⟨g,cap,cur,h1,hg,hh,r⟩
 ·exact QhU h1
 ·refine QhV ⟨g,cap,cur,h1,hg,?_,r⟩;rw[hs g (by rw[h1];rfl)];exact hh
theorem Blk.same {w w':World}{B t:Nat}{cs:List Value}(h:Blk w B cs t)(hs:w'.heap[B]? =w.heap[B]?):Blk w' B cs t:=by
 unfold Blk at *;rw[hs];exact h
theorem Ky {M:Nat→Prop}{w w':World}{B:Nat}(h:Below B w w')(hB:w.heap.size≤B):Chg M w w':=⟨h.os,h.tape,h.output,h.size,fun k hk _=>h.block k (by omega)⟩
theorem Og {M:Nat→Prop}{w w':World}{r:Option Nat}{g:Nat}(h:Gr2 w w' r g)(hr:∀k,r=some k→M k)(hg:M g):Chg M w w':=
 ⟨h.os,h.tape,h.output,h.size,fun k hk hm=>h.block k hk (fun e=>hm (hr k e.symm)) (fun e=>hm (e▸hg))⟩
end
section
open Go.RowKit Go.Shelf
attribute [local go_sem] Oper.semAt_some
theorem Qbv (os:List (Int×ByteArray×List Int))(ds:List (Int×Int))(f i:Nat)(l:List Int):l<+:traceF os ds f i l:=by
 induction f generalizing i l with
 |zero=>exact List.prefix_refl _
 |succ f ih=>
  unfold traceF;split
  ·obtain⟨t,ht⟩:=Pu l (nextP os ds (l.getD i 0));refine List.IsPrefix.trans ?_ (ih _ _);rw[ht];exact List.prefix_append _ _
  ·exact List.prefix_refl _
theorem Ol (h:Hp)(n Bh:Nat)(w0 w:World)(hn:2≤n)(hh:Qj w0 h)(hw0:Below w0.heap.size w0 w)(hs:ZV h)(hok:okP h.p=true)(hcap:∀(i:Nat) (hi:i<h.os.length),h.os[i].r.length≤h.os[i].rcap)
 (hBh:Blk w Bh [QhR h.oa h.os.length h.ocap,QhR h.ra h.rs.length h.rcap,QhR h.wa h.ws.length h.wcap,QhR h.da h.ds.length h.dcap] 27):
 Kk (fun x:Int=>#[QhW .i64 x]) Fence.wide n Cut.prog 91 #[.pointer (some ⟨Bh,0,none⟩)] (traceF (h.os.map Ob.p) h.ds 61 0 (putAll [] h.rs)) (fun k=>k=Bh) w0.heap.size w:=by
 have htr:=Y0 hok hs hcap;have hrr:=fun z hz=>(JT (ZP hok).2.2.2.2.1 z hz).2
 have hkd:∀i (hi:i<h.os.length),QU h.os[i].k h.os[i].t h.os[i].r.length=true:=fun i hi=>by
  have:=(ZP hok).2.2.2.1 i hi;simp only[Qt,Ob.p,Bool.and_eq_true]at this;exact this.2
 have hn60:=htr.n60;clear hok;intro l J W hW hJ hY h0;have HJ:Hid (∀M pre A B,J M pre A→Chg M A B→J (Z9 M A B) pre B):=hJ;generalize hR:traceF (h.os.map Ob.p) h.ds 61 0 (putAll [] h.rs)=R at hY⊢;have HR:Hid (traceF (h.os.map Ob.p) h.ds 61 0 (putAll [] h.rs)=R):=hR;have HY:Hid (∀M pre x W1,J M pre W1→pre++ [x]<+:R→YieldAt Fence.wide (n-1) Cut.prog l #[.int .i64 x] W1 fun e W'=>e=.returned (.bool true)∧J M (pre++ [x]) W'∧(∀k,M k→W'.heap[k]? =W1.heap[k]?)∧Below w0.heap.size W1 W'):=hY;clear hR hY hJ;have hro:Fence.wide.round=none:=rfl;have hn1:1≤n:=by omega
 have hn2:1≤n-1:=by omega
 refine callsIn_of_wp (Cut.func_of Tryz.func91 rfl) rfl trivial ?_ hro;simp only[Tryz.ntmps91,List.size_toArray,List.length_cons,List.length_nil,Nat.reduceAdd,Nat.reduceSub,Array.replicate_succ,Array.replicate_zero,List.push_toArray,List.append_toArray,List.nil_append,List.cons_append];have hKW:=hBh.below hW hBh.lt;have hB0:Below w0.heap.size w0 W:=hw0.trans (hW.mono hw0.size);clear hBh hW hw0;obtain⟨x0,x1,x2,x3⟩:=Qu hKW
 gi_wp2_with fail
 refine⟨trivial,?_⟩;refine(callsIn_wide.2 (QfA h.os.length W hn60)).mono ?_;rintro e w1 ⟨g,rfl,hb1,hgW,hg1⟩;have hB1:=hB0.trans (hb1.mono hB0.size);have hK1:=hKW.below hb1 hKW.lt;have hJ1:=HJ.out _ _ _ _ h0 (Ky hb1 (QhS _));have hBhlt:=hKW.lt;have hglt:=hg1.lt;have hW1:=hb1.size;clear hb1 hKW x0 x1 x2 x3 h0;obtain⟨x0,x1,x2,x3⟩:=Qu hK1;have hBh1:=hK1.lt;have bT:Below w1.heap.size w1 (w1.alloc (QhT #[QhR (some ⟨g,0,none⟩) ((h.os.length+63)/64) ((h.os.length+63)/64)] 117)):=(Below.refl _ _).alloc (QhS _) _;have kT:=Blk.new w1 [QhR (some ⟨g,0,none⟩) ((h.os.length+63)/64) ((h.os.length+63)/64)] 117;have hB2:=hB1.trans (bT.mono hB1.size);have hK2:=hK1.below bT hK1.lt;have hg2:=hg1.below bT hg1.lt;have hJ2:=HJ.out _ _ _ _ hJ1 (Ky bT (QhS _))
 have hset2:JC (w1.alloc (QhT #[QhR (some ⟨g,0,none⟩) ((h.os.length+63)/64) ((h.os.length+63)/64)] 117)) h.os.length g []:=fun hp=>by
  have e1:List.replicate ((h.os.length+63)/64) (QhW .u64 0)=[QhW .u64 0]:=by rw[show(h.os.length+63)/64=1 by omega];rfl
  rw[e1]at hg2;exact⟨0,by simpa using hg2,Qcl⟩
 have hgn0:w0.heap.size≤g:=Nat.le_trans hB0.size hgW;have c5:=P2 (w1.heap.size+1) g h.os.length (.slice none 0 0) [] h.ra h.rcap h.rs (w1.alloc (QhT #[QhR (some ⟨g,0,none⟩) ((h.os.length+63)/64) ((h.os.length+63)/64)] 117)) hn60 (World.ownsRow_nil _ _ _ _) (by simp) (by omega) hset2 (Qr.nil _) ((hh.below hB2 (QhS _)).sr) hs.r (AvI.none _ _) (hh.sr.av hgn0) hrr
 have hmm:∀k,(k=Bh∨k=g∨k=w1.heap.size)→Z9 (Z9 (fun k=>k=Bh) W w1) w1 (w1.alloc (QhT #[QhR (some ⟨g,0,none⟩) ((h.os.length+63)/64) ((h.os.length+63)/64)] 117)) k:=fun k hk=>by
  rcases hk with rfl|rfl|rfl
  ·exact QhU (QhU rfl)
  ·exact QhU (QhV ⟨hgW,hglt⟩)
  ·exact QhV ⟨QhS _,by simp⟩
 generalize hM2:Z9 (Z9 (fun k=>k=Bh) W w1) w1 (w1.alloc (QhT #[QhR (some ⟨g,0,none⟩) ((h.os.length+63)/64) ((h.os.length+63)/64)] 117))=M2 at hmm hJ2;clear hM2 hJ1
 gi_wp2_with fail
 refine⟨trivial,?_⟩;refine(callsIn_wide.2 c5).mono ?_;rintro e w2 ⟨v,rfl,hown,hpl,hset,hgr,hob⟩;have hJ3:=HJ.out _ _ _ _ hJ2 (Og hgr (fun k e=>by simp[QhZ]at e) (hmm g (QhV (QhU rfl))))
 have hrow3:∀k,v.ownBlock=some k→Z9 M2 (w1.alloc (QhT #[QhR (some ⟨g,0,none⟩) ((h.os.length+63)/64) ((h.os.length+63)/64)] 117)) w2 k:=fun k e=>by
  rcases hob with h1|⟨x,h1,h2⟩
  ·rw[h1]at e;simp[QhZ]at e
  ·rw[h1]at e;simp at e;subst e;exact QhV ⟨h2,(hown.lt _ h1).2⟩
 have hmm3:∀k,(k=Bh∨k=g∨k=w1.heap.size)→Z9 M2 (w1.alloc (QhT #[QhR (some ⟨g,0,none⟩) ((h.os.length+63)/64) ((h.os.length+63)/64)] 117)) w2 k:=fun k hk=>QhU (hmm k hk);generalize hM3:Z9 M2 (w1.alloc (QhT #[QhR (some ⟨g,0,none⟩) ((h.os.length+63)/64) ((h.os.length+63)/64)] 117)) w2=M3 at hmm3 hJ3 hrow3;have hgn:g≠Bh:=by omega
 have hB3:Below w0.heap.size w0 w2:=hB2.trans (hgr.below hB2.size (fun k e=>by simp[QhZ]at e) hgn0);have hK3:=hK2.gr2 hgr (by simp[QhZ]) (Ne.symm hgn);have kT3:=kT.gr2 hgr (by simp[QhZ]) (by omega);have hbase:w0.heap.size≤w1.heap.size:=hB1.size;clear hM3 hmm hJ2 c5 hset2 hgr hob hB2 hK2 hg2 kT bT x0 x1 x2 x3 hK1 hg1 hB1
 gi_wp2
 gi_loopw [4,5] (fun v i wr=>∃(k f:Nat) (l:List Int) (M:Nat→Prop),i=.int .i64 k∧k≤h.os.length∧k≤l.length∧Qa wr (w1.heap.size+1) v l∧Qr h.os.length l∧JC wr h.os.length g l∧traceF (h.os.map Ob.p) h.ds f k l=R∧h.os.length≤k+f∧J M (l.take k) wr∧(∀x,v.ownBlock=some x→M x)∧(∀x,(x=Bh∨x=g∨x=w1.heap.size)→M x)∧Below w0.heap.size w0 wr∧Blk wr Bh [QhR h.oa h.os.length h.ocap,QhR h.ra h.rs.length h.rcap,QhR h.wa h.ws.length h.wcap,QhR h.da h.ds.length h.dcap] 27∧Blk wr w1.heap.size [QhR (some ⟨g,0,none⟩) ((h.os.length+63)/64) ((h.os.length+63)/64)] 117) (fun _ i _=>h.os.length-(intOf i).toNat)
 case atStart=>exact⟨0,61,_,M3,rfl,QhX _,QhX _,hown,hpl,hset,HR.out,by omega,hJ3,hrow3,hmm3,hB3,hK3,kT3⟩
 case round=>
  obtain⟨k,f,ls,M,rfl,hkn,hkl,hown,hpl,hset,htr2,hkf,hJr,hrow,hmm,hB,hK,kT⟩:=hrel;clear hJ3 hrow3 hmm3 hB3 hK3 kT3;have HT:Hid (traceF (h.os.map Ob.p) h.ds f k ls=R):=htr2;clear htr2;have hll:=hpl.len;obtain⟨va,vcap,rfl,hseg,-⟩:=hown.form;by_cases hlt:k<ls.length
  ·obtain⟨f',rfl⟩:∃f',f=f'+1:=⟨f-1,by omega⟩;have hx:=hpl.rng ls[k] (List.getElem_mem hlt);have hpre:ls<+:R:=by rw[←HT.out];exact Qbv _ _ _ _ _
   have HT2:Hid (traceF (h.os.map Ob.p) h.ds f' (k+1) (putAll ls (nextP (h.os.map Ob.p) h.ds ls[k]))=R):=by
    have:=HT.out;unfold traceF at this;rw[if_pos hlt]at this;have e:ls.getD k 0=ls[k]:=by simp[List.getD,List.getElem?_eq_getElem hlt]
    rw[e]at this;exact this
   obtain⟨b,off,rfl,hbw,c1⟩:=hseg.get hlt;have hi1:(k:Int)<(ls.length:Int):=by omega
   obtain⟨fn,tmps,assign,body,hy,hRd⟩:=HY.out M (ls.take k) ls[k] wr hJr (by rw[←Qh2 hlt];exact(List.take_prefix _ _).trans hpre);clear HT
   gi_wp2
   refine hRd.mono ?_;rintro e W3 ⟨rfl,hJ3,hsame,hb3⟩;have etk:ls.take k++ [ls[k]]=ls.take (k+1):=(Qh2 hlt).symm;rw[etk]at hJ3;have hown3:=hown.same (w':=W3) (fun x e=>hsame x (hrow x e))
   have hset3:JC W3 h.os.length g ls:=fun hp=>by
    obtain⟨X,h1,h2⟩:=hset hp;exact⟨X,h1.same (hsame g (hmm g (QhV (QhU rfl)))),h2⟩
   have hK3:=hK.same (hsame Bh (hmm Bh (QhU rfl)));have kT3:=kT.same (hsame w1.heap.size (hmm w1.heap.size (QhV (QhV rfl))));have hB3:=hB.trans hb3;clear etk hsame hb3 hown hset hK kT hB hJr hRd hy c1 hbw hseg fn tmps assign body;have hdr:Below W3.heap.size W3 W3.drew:=(Below.refl _ _).drew;have hB4:=hB3.trans (hdr.mono hB3.size);have hin4:=hh.below hB4 (QhS _);have c2:=Qe8 h ls[k] W3.drew hin4 hs hx.1 hx.2 hkd;simp only[Hp.v]at c2;have hnx:=htr.nx ls[k];have hnl:=htr.nl ls[k];generalize nextP (h.os.map Ob.p) h.ds ls[k]=nx at c2 HT2 hnx hnl;have hkn2:k<h.os.length:=by omega
   obtain⟨x0,x1,x2,x3⟩:=Qu hK3;have y0:=kT3.cell 0;simp only[QhY]at y0;obtain⟨va2,vcap2,ev2,hseg3,-⟩:=hown3.form;have hva:va2=some ⟨b,off,none⟩:=by simp at ev2;exact ev2.1.symm
   subst hva;clear ev2;obtain⟨b9,off9,e9,_,c1⟩:=hseg3.get hlt;have e9':b9=b∧off9=off:=by simp at e9;exact⟨e9.1.symm,e9.2.symm⟩
   obtain⟨rfl,rfl⟩:=e9';have hgT:g<W3.heap.size:=by have:=kT3.lt;omega
   have hvav:QM h (QhR (some ⟨b9,off9,none⟩) ls.length vcap).ownBlock:=by
    cases e:(QhR (some ⟨b9,off9,none⟩) ls.length vcap).ownBlock with
    |none=>exact QM.none h
    |some x=>have:=(hown3.lt x e).1;exact hh.av (by omega)
   have hgav:QM h (some g):=hh.av hgn0;have hbS:w1.heap.size+1≤W3.heap.size:=kT3.lt;clear e9 hseg3
   have K6:Hid (∀(w4:World) (na:Option Addr) (ncap:Nat),Qi w4 na nx→Below W3.drew.heap.size W3.drew w4→(∀r,QM h r→(∀g,r=some g→g<W3.drew.heap.size)→AvI na nx.length r)→
    Calls Cut.prog 93 #[.slice (some ⟨b9,off9,none⟩) ls.length vcap,.slice na nx.length ncap,.agg #[.slice (some ⟨g,0,none⟩) ((h.os.length+63)/64) ((h.os.length+63)/64)]] w4 fun e w'=>∃v',e=.returned v'∧Qa w' (w1.heap.size+1) v' (putAll ls nx)∧Qr h.os.length (putAll ls nx)∧JC w' h.os.length g (putAll ls nx)∧Gr2 w4 w' (QhR (some ⟨b9,off9,none⟩) ls.length vcap).ownBlock g∧(v'.ownBlock=(QhR (some ⟨b9,off9,none⟩) ls.length vcap).ownBlock∨∃x,v'.ownBlock=some x∧w4.heap.size≤x)):=fun w4 na ncap hsg hbl hav=>by
    have hst:=hdr.trans hbl;exact P2 (w1.heap.size+1) g h.os.length _ ls na ncap nx w4 hn60 (hown3.below hst (QhS _)) (Nat.le_trans hbS hst.size) (by omega) (fun hp=>by obtain⟨X,h1,h2⟩:=hset3 hp;exact⟨X,h1.below hst h1.lt,h2⟩) hpl hsg hnl (hav _ hvav (fun x e=>(hown3.lt x e).2)) (hav _ hgav (fun x e=>by cases e;exact hgT)) hnx
   gi_wp2_with fail
   gi_region_with (first
    |(refine⟨trivial,?_⟩;gi_at_call 94;refine(callsIn_wide.2 c2).mono ?_;rintro e w4 ⟨nv,rfl,na,ncap,⟨rfl,hnseg,hnb,hnav⟩⟩;have kT4:=(kT3.below hdr kT3.lt).below hnb kT3.lt;have y4:=kT4.cell 0;simp only[QhY]at y4)
    |(refine⟨trivial,?_⟩;gi_at_call 93;refine(callsIn_wide.2 (K6.out _ _ _ hnseg hnb hnav)).mono ?_;rintro e w5 ⟨v',rfl,hown5,hpl5,hset5,hgr5,hob5⟩))
   all_goals
    have hst:=hdr.trans hnb;have hJ5:=HJ.out _ _ _ _ (HJ.out _ _ _ _ hJ3 (Ky hst (QhS _))) (Og hgr5 (fun x e=>QhU (hrow x e)) (QhU (hmm g (QhV (QhU rfl)))));rw[←Qf4 ls nx (k+1) hlt]at hJ5
    have hrow5:∀x,v'.ownBlock=some x→Z9 (Z9 M W3 w4) w4 w5 x:=fun x e=>by
     rcases hob5 with h1|⟨y,h1,h2⟩
     ·rw[h1]at e;exact QhU (QhU (hrow x e))
     ·rw[h1]at e;cases e;exact QhV ⟨h2,(hown5.lt _ h1).2⟩
    have hmm5:∀x,(x=Bh∨x=g∨x=w1.heap.size)→Z9 (Z9 M W3 w4) w4 w5 x:=fun x hx=>QhU (QhU (hmm x hx));have hq1:=hB3.trans (hst.mono hB3.size);have hB5:Below w0.heap.size w0 w5:=hq1.trans (hgr5.below hq1.size (fun x e=>by have:=(hown3.lt x e).1;omega) hgn0);have hK5:=(hK3.below hst hK3.lt).gr2 hgr5 (hown3.ne hK3 (by decide)) (Ne.symm hgn);have kT5:=(kT3.below hst kT3.lt).gr2 hgr5 (hown3.ne kT3 (by decide)) (by omega);have hl5:=Qf3 ls nx;clear c2 K6 hgr5 hob5 hnb hnav hnseg hst hq1 hJ3 hown3 hset3 hK3 kT3 hB3 hdr hB4 hin4 hvav hgav x0 x1 x2 x3 y0 c1
    gi_wp2
    go_roundw
    case rel=>exact⟨k+1,f',putAll ls nx,_,by go_num,by omega,by omega,hown5,hpl5,hset5,HT2.out,by omega,hJ5,hrow5,hmm5,hB5,hK5,kT5⟩
    case measure=>simp[intOf];omega
  ·have e:R=ls:=by
    have:=HT.out;rw[←this]
    cases f with
    |zero=>rfl
    |succ f=>unfold traceF;rw[if_neg hlt]
   have e2:ls.take k=ls:=Qh1 (by omega);rw[e2,←e]at hJr
   gi_wp2
   go_end0
   exact⟨⟨_,rfl⟩,M,hJr⟩
end
section
open Go.RowKit
theorem Pr (p:Int)(n:Int):plB p n=inB p 0 (n-1):=by
 rw[Bool.eq_iff_iff];simp[inB,plB];omega
theorem QbJ (oa:Option Addr)(ocap:Nat)(os:List Ob)(a:Option Addr)(n cap:Nat)(ws:List (Int×Int))(w:World)(hl:ws.length=n)(hn:n≤maxLen)(ho:ZE w oa os)(_hs:os.length≤1048576)(hw:Qz w a ws):
 Calls Cut.prog 47 #[.slice a n cap,.slice oa os.length ocap] w fun e w'=>e=.returned (.bool (ws.all (Qn (os.map Ob.p))))∧Below w.heap.size w w':=by
 have hn1:=hn;unfold maxLen at hn1;go_enter (Cut.func_of Tryz.func47 rfl),Tryz.ntmps47;go_wp2;go_loopw [6,9] (fun _ i wr=>∃k:Nat,k≤n∧i=.int .i64 k∧Below w.heap.size w wr∧∀j (hj:j<ws.length),j<k→Qn (os.map Ob.p) ws[j]=true) (fun _ i _=>n-(intOf i).toNat)
 case atStart=>exact⟨0,QhX _,rfl,Below.refl _ _,fun j _ h=>by omega⟩
 case round=>
  obtain⟨k,hk,rfl,hb,hall⟩:=hrel;by_cases hlt:k<n
  ·have hkl:k<ws.length:=by omega
   obtain⟨b,off,rfl,hbw,c1,c2⟩:=hw.get hkl;have d1:=(hb.cell (p:=⟨b,off+k*2,none⟩) hbw).trans c1;have d2:=(hb.cell (p:=⟨b,off+k*2+1,none⟩) hbw).trans c2;have hbA:=hb.alloc hb.size (QhT #[QhW .i64 ws[k].1,QhW .i64 ws[k].2] 40);have HA:Hid (∀j (hj:j<ws.length),j<k→Qn (os.map Ob.p) ws[j]=true):=hall;clear hall c1 c2;go_wp2_with fail;refine(Ps _ _ _).mono ?_;rintro e w1 ⟨rfl,rfl⟩
   cases h1:plB ws[k].1 (os.length:Int)with
   |false=>
    have HF:Hid (ws.all (Qn (os.map Ob.p))=false):=JG hkl (by rw[Pr]at h1;simp[Qn,h1]);clear h1;go_wp2;go_ret;exact⟨QA HF.out.symm,hbA⟩
   |true=>
    have hx:0≤ws[k].1∧ws[k].1<(os.length:Int):=by simpa[plB]using h1
    obtain⟨hx0,hx1⟩:=hx;have H1:Hid (plB ws[k].1 (os.length:Int)=true):=h1;clear h1;go_wp2_with fail;refine(Ps _ _ _).mono ?_;rintro e w1 ⟨rfl,rfl⟩
    cases h2:plB ws[k].2 (os.length:Int)with
    |false=>
     have HF:Hid (ws.all (Qn (os.map Ob.p))=false):=JG hkl (by rw[Pr]at h2;simp[Qn,h2]);clear h2;go_wp2;go_ret;exact⟨QA HF.out.symm,hbA⟩
    |true=>
     have hgl:ws[k].1.toNat<os.length:=by omega
     obtain⟨b2,off2,rfl,hbw2,e1,_,_⟩:=ho.get hgl;have f1:=(hbA.cell (p:=⟨b2,off2+ws[k].1.toNat*3,none⟩) hbw2).trans e1
     have HW:Hid (Qn (os.map Ob.p) ws[k]=decide (os[ws[k].1.toNat].k=4)):=by
      show _=_;have h1:=H1.out;rw[Pr]at h1 h2;simp[Qn,h1,h2,hgl,Ob.p]
     clear h2 e1;by_cases h4:os[ws[k].1.toNat].k=4
     ·have hb4:(os[ws[k].1.toNat].k !=4)=false:=by simp[h4]
      have HR:Hid (∀j (hj:j<ws.length),j<k+1→Qn (os.map Ob.p) ws[j]=true):=J8 HA.out hkl (by rw[HW.out];simp[h4]);clear h4;go_wp2;go_roundw
      case rel=>exact⟨k+1,by omega,by go_num,hbA,HR.out⟩
      case measure=>simp[intOf];omega
     ·have hb4:(os[ws[k].1.toNat].k !=4)=true:=by simp[h4]
      have HF:Hid (ws.all (Qn (os.map Ob.p))=false):=JG hkl (by rw[HW.out];simp[h4]);clear h4;go_wp2;go_ret;exact⟨QA HF.out.symm,hbA⟩
  ·have HF:Hid (ws.all (Qn (os.map Ob.p))=true):=Yh (fun i hi=>hall i hi (by omega));clear hall;go_wp2;go_ret;exact⟨QA HF.out.symm,hb⟩
theorem VA (h:Hp)(w:World)(hh:Qj w h)(hs:ZV h)(ht:∀i (hi:i<h.os.length),h.os[i].t.size≤maxLen):
 Calls Cut.prog 13 #[h.v] w fun e w'=>e=.returned (.bool (okP h.p))∧Below w.heap.size w w':=by
 have hbig:=@Pm h;have hsmall:=@VL h;generalize okP h.p=OK at hbig hsmall⊢;obtain⟨oa,ocap,os,ra,rcap,rs,wa,wcap,ws,da,dcap,ds⟩:=h;obtain⟨ho,hr,hw,hd⟩:=hh;obtain⟨so,soo,sr,sw,sd⟩:=hs;simp only[Hp.v]at *;have Hbig:Hid (60<os.length∨8<rs.length∨20<ws.length+ds.length→OK=false):=hbig;clear hbig;by_cases g1:60<os.length
 ·have HO:Hid (OK=false):=Hbig.out (QhU g1);clear Hbig hsmall;go_enter (Cut.func_of Tryz.func13 rfl),Tryz.ntmps13;go_wp2;go_ret;exact⟨QA HO.out.symm,(Below.refl _ _).alloc (QhS _) _⟩
 by_cases g2:8<rs.length
 ·have HO:Hid (OK=false):=Hbig.out (QhV (QhU g2));clear Hbig hsmall;go_enter (Cut.func_of Tryz.func13 rfl),Tryz.ntmps13;go_wp2;go_ret;exact⟨QA HO.out.symm,(Below.refl _ _).alloc (QhS _) _⟩
 by_cases g3:20<ws.length+ds.length
 ·have HO:Hid (OK=false):=Hbig.out (QhV (QhV g3));have g3':(20:Int)<(ws.length:Int)+(ds.length:Int):=by omega
  clear Hbig hsmall;go_enter (Cut.func_of Tryz.func13 rfl),Tryz.ntmps13;go_wp2;go_ret;exact⟨QA HO.out.symm,(Below.refl _ _).alloc (QhS _) _⟩
 have HO:Hid (OK=(os.all (fun o=>Qt os.length o.p)&&(Q2 os.length rs&&(ws.all (Qn (os.map Ob.p))&&ds.all (Qn (os.map Ob.p)))))):=hsmall (by omega) (by omega) (by omega);clear hsmall Hbig;have k1:decide ((60:Int)<(os.length:Int))=false:=by simp;omega
 have k2:decide ((8:Int)<(rs.length:Int))=false:=by simp;omega
 have k3:decide ((20:Int)<(ws.length:Int)+(ds.length:Int))=false:=by simp;omega
 go_enter (Cut.func_of Tryz.func13 rfl),Tryz.ntmps13;go_wp2;have hB0:Below w.heap.size w (w.alloc (QhT #[QhR oa os.length ocap,QhR ra rs.length rcap,QhR wa ws.length wcap,QhR da ds.length dcap] 27)):=(Below.refl _ _).alloc (QhS _) _;have hK0:Blk (w.alloc (QhT #[QhR oa os.length ocap,QhR ra rs.length rcap,QhR wa ws.length wcap,QhR da ds.length dcap] 27)) w.heap.size [QhR oa os.length ocap,QhR ra rs.length rcap,QhR wa ws.length wcap,QhR da ds.length dcap] 27:=Blk.new w _ _;go_loopw [4,28] (fun _ i wr=>∃k:Nat,k≤os.length∧i=.int .i64 k∧Below w.heap.size w wr∧Blk wr w.heap.size [QhR oa os.length ocap,QhR ra rs.length rcap,QhR wa ws.length wcap,QhR da ds.length dcap] 27∧∀j (hj:j<os.length),j<k→Qt os.length os[j].p=true) (fun _ i _=>os.length-(intOf i).toNat)
 case atStart=>exact⟨0,QhX _,rfl,hB0,hK0,fun j _ h=>by omega⟩
 case round=>
  obtain⟨k,hk,rfl,hb,hblk,hall⟩:=hrel;clear hB0 hK0;have c0:=hblk.cell 0;have c1:=hblk.cell 1;have c2:=hblk.cell 2;have c3:=hblk.cell 3;simp only[QhY,Qh0]at c0 c1 c2 c3;have hsz:=hblk.lt;by_cases hlt:k<os.length
  ·have HA:Hid (∀j (hj:j<os.length),j<k→Qt os.length os[j].p=true):=hall;clear hall;have hrl:os[k].r.length≤maxLen:=by have:=soo k hlt;unfold maxLen;omega
   have htl:=ht k hlt;have s0:=(ho.2 k hlt).below hb (QhS _);obtain⟨b,off,rfl,hbw,e1,e2,e3⟩:=ho.get hlt;have d1:=(hb.cell (p:=⟨b,off+k*3,none⟩) hbw).trans e1;have d2:=(hb.cell (p:=⟨b,off+k*3+1,none⟩) hbw).trans e2;have d3:=(hb.cell (p:=⟨b,off+k*3+2,none⟩) hbw).trans e3;have hi1:(k:Int)<(os.length:Int):=by omega
   clear e1 e2 e3;have bX:Below wr.heap.size wr (wr.alloc (QhT #[QhW .i64 os[k].k,Value.string os[k].t,QhR os[k].ra os[k].r.length os[k].rcap] 37)).drew:=((Below.refl wr.heap.size wr).alloc (QhS _) _).drew;have sX:=s0.below bX (QhS _);have cX:=(bX.cell (p:=⟨w.heap.size,0,none⟩) hsz).trans c0;have zX:w.heap.size<(wr.alloc (QhT #[QhW .i64 os[k].k,Value.string os[k].t,QhR os[k].ra os[k].r.length os[k].rcap] 37)).drew.heap.size:=Nat.lt_of_lt_of_le hsz bX.size;have hbX:=hb.trans (bX.mono hb.size);have kX:=hblk.below bX hsz;clear s0 bX;go_wp2_with fail
   go_region_with (first
    |(go_at_call 45;refine(Qbp _ _ _ _ _ os[k].r _ rfl sX).mono ?_;rintro e w1 ⟨rfl,hbx⟩;have s1:=sX.below hbx (QhS _);have cx1:=(hbx.cell (p:=⟨w.heap.size,0,none⟩) zX).trans cX)
    |(go_at_call 44;refine(Qhn _ _ _ _ _ os[k].r _ _ rfl hrl htl s1 (by omega)).mono ?_;rintro e w2 ⟨rfl,hby⟩))
   all_goals
    have h1:=hbX.trans (hbx.mono hbX.size);have hbb:=h1.trans (hby.mono h1.size);have q1:=kX.below hbx zX;have hblk1:=q1.below hby q1.lt;clear hbx hby d1 d2 d3 sX s1 cx1 cX c0 c1 c2 c3 q1 h1 kX hbX hblk hb
    cases hob:Qt os.length (os[k].k,os[k].t,os[k].r)with
    |false=>
     have HF:Hid (OK=false):=by
      show OK=false;rw[HO.out,JG (f:=fun o=>Qt os.length o.p) hlt hob];rfl
     clear hob;go_wp2;go_ret;exact⟨QA HF.out.symm,hbb⟩
    |true=>
     have HR:Hid (∀j (hj:j<os.length),j<k+1→Qt os.length os[j].p=true):=J8 (f:=fun(o:Ob)=>Qt os.length o.p) HA.out hlt hob;clear hob;go_wp2;go_roundw
     case rel=>exact⟨k+1,by omega,by go_num,hbb,hblk1,HR.out⟩
     case measure=>simp[intOf];omega
  ·have HO1:Hid (OK=(Q2 os.length rs&&(ws.all (Qn (os.map Ob.p))&&ds.all (Qn (os.map Ob.p))))):=by
    show OK=_;rw[HO.out,Yh (f:=fun o=>Qt os.length o.p) (fun i hi=>hall i hi (by omega)),Bool.true_and]
   have hnk:decide ((k:Int)<(os.length:Int))=false:=by simp;omega
   clear hall HO;go_wp2_with fail;refine(VP ra rs.length rcap rs os.length wr rfl (by unfold maxLen;omega) (hr.below hb (QhS _)) (by omega)).mono ?_;rintro e w1 ⟨rfl,rfl⟩
   cases hob:Q2 os.length rs with
   |false=>
    have HF:Hid (OK=false):=by
     show OK=false;rw[HO1.out,hob];rfl
    clear hob;go_wp2;go_ret;exact⟨QA HF.out.symm,hb⟩
   |true=>
    have HO2:Hid (OK=(ws.all (Qn (os.map Ob.p))&&ds.all (Qn (os.map Ob.p)))):=by
     show OK=_;rw[HO1.out,hob,Bool.true_and]
    clear hob HO1;go_wp2_with fail;refine(QbJ oa ocap os wa ws.length wcap ws _ rfl (by unfold maxLen;omega) (ho.below hb (QhS _)) so (hw.below hb (QhS _))).mono ?_;rintro e w1 ⟨rfl,hb1⟩;have hbb:=hb.trans (hb1.mono hb.size);have hblk1:=hblk.below hb1 hsz;clear c0 c1 c2 c3;have c0:=hblk1.cell 0;have c3:=hblk1.cell 3;simp only[QhY,Qh0]at c0 c3
    cases hob:ws.all (Qn (os.map Ob.p))with
    |false=>
     have HF:Hid (OK=false):=by
      show OK=false;rw[HO2.out,hob];rfl
     clear hob;go_wp2;go_ret;exact⟨QA HF.out.symm,hbb⟩
    |true=>
     have HF:Hid (OK=ds.all (Qn (os.map Ob.p))):=by
      show OK=_;rw[HO2.out,hob,Bool.true_and]
     clear hob;go_wp2_with fail;refine(QbJ oa ocap os da ds.length dcap ds _ rfl (by unfold maxLen;omega) (ho.below hbb (QhS _)) so (hd.below hbb (QhS _))).mono ?_;rintro e w2 ⟨rfl,hb2⟩;have hb3:=hbb.trans (hb2.mono hbb.size);go_wp2;go_ret;exact⟨QA HF.out.symm,hb3⟩
end
end Go.Proofs.YtcpnkpogebjieaaGreat
