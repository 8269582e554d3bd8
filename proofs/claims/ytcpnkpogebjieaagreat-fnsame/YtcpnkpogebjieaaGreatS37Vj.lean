/- The specification's own MemCollect, exact. -/
import Derived.Test.YtcpnkpogebjieaaGreatS36Vja
open Go.Value renaming slice→QhR,int→QhW,string→QhX
open List renaming setIfInBounds_toArray→QhS,set_cons_zero→QhT,set_cons_succ→QhU,getElem_toArray→QhZ,getElem_cons_zero→Qh0,getElem_cons_succ→Qh1,length_map→Qh6,take_of_length_le→Qh7
open Go.Obj renaming cells→QhV
open Nat renaming le_refl→QhY,le_of_eq→Qh2,zero_le→Qh3,le_of_lt→Qh5
open Go.World renaming size_alloc→Qh4
set_option maxHeartbeats 3200000
set_option maxRecDepth 100000
namespace Go.Proofs.YtcpnkpogebjieaaGreat
section
open Go.RowKit
def CoP (x:List (Int×ByteArray×List Int)×List Int×List (Int×Int)×List (Int×Int))(y:List (Int×ByteArray×List Int)×List Int×List (Int×Int)×List (Int×Int))(ms:List Int):Prop:=
 ∃(n:Nat) (K:List Int) (ws ds:List (Int×Int)),itS x.1 n (x.2.2.1,x.2.2.2,traceF x.1 x.2.2.2 61 0 (putAll [] x.2.1))=(ws,ds,K)∧Ql ws K=[]∧
  y=((traceF x.1 ds 61 0 (putAll [] x.2.1)).map (Zj x.1 (traceF x.1 ds 61 0 (putAll [] x.2.1))),x.2.1.map (wh (traceF x.1 ds 61 0 (putAll [] x.2.1))),Qx ws (traceF x.1 ds 61 0 (putAll [] x.2.1)),Qx ds (traceF x.1 ds 61 0 (putAll [] x.2.1)))∧ms=whs (traceF x.1 ds 61 0 (putAll [] x.2.1)) x.1.length
theorem Qa9 (h:Hp)(w:World)(hf:Fit w h):
 Calls Cut.prog 9 #[h.v] w fun e w'=>∃(y:Hp) (v:Value) (ms:List Int),e=.returned (.tuple #[y.v,v])∧OkC y∧(∀W,Qf 27 w' W→Fit W y)∧Qa w' w.heap.size v ms∧(okP h.p=false→y.p=([],[],[],[])∧ms=[])∧(okP h.p=true→CoP h.p y.p ms)∧Below w.heap.size w w'∧(∀q,q<w.heap.size→QM y (some q)):=by
 obtain⟨i0,hi,hz0,hz1,hz2⟩:=info_parts Je;obtain⟨n0,hn,hn0,hn1,hn2⟩:=info_parts YT;have hB0:Below w.heap.size w ((w.alloc (QhV #[QhR h.oa h.os.length h.ocap,QhR h.ra h.rs.length h.rcap,QhR h.wa h.ws.length h.wcap,QhR h.da h.ds.length h.dcap] 27)).alloc (QhV #[QhR none 0 0,QhR none 0 0,QhR none 0 0,QhR none 0 0] 27)):=((Below.refl _ _).alloc (QhY _) _).alloc (by simp) _;have hK0:=(Blk.new w [QhR h.oa h.os.length h.ocap,QhR h.ra h.rs.length h.rcap,QhR h.wa h.ws.length h.wcap,QhR h.da h.ds.length h.dcap] 27).alloc (QhV #[QhR none 0 0,QhR none 0 0,QhR none 0 0,QhR none 0 0] 27)
 have hR0:Blk ((w.alloc (QhV #[QhR h.oa h.os.length h.ocap,QhR h.ra h.rs.length h.rcap,QhR h.wa h.ws.length h.wcap,QhR h.da h.ds.length h.dcap] 27)).alloc (QhV #[QhR none 0 0,QhR none 0 0,QhR none 0 0,QhR none 0 0] 27)) (w.heap.size+1) [QhR none 0 0,QhR none 0 0,QhR none 0 0,QhR none 0 0] 27:=by
  have:=Blk.new (w.alloc (QhV #[QhR h.oa h.os.length h.ocap,QhR h.ra h.rs.length h.rcap,QhR h.wa h.ws.length h.wcap,QhR h.da h.ds.length h.dcap] 27)) [QhR none 0 0,QhR none 0 0,QhR none 0 0,QhR none 0 0] 27;rw[Qh4]at this;exact this
 have c1:=Y5 h _ (hf.isIn.below hB0 (QhY _)) hf.small hf.txt;go_enter (Cut.func_of Tryz.func9 rfl),Tryz.ntmps9;simp only[Hp.v]at c1⊢;go_wp2_with fail;refine c1.mono ?_;rintro e w1 ⟨rfl,hb1⟩;have hB1:=hB0.trans (hb1.mono hB0.size);have hK1:=hK0.step hb1;have hR1:=hR0.step hb1;clear c1 hB0 hK0 hR0 hb1;have HOKK:Hid (okP h.p=okP h.p):=rfl
 cases hok:okP h.p with
 |false=>
  have HOK:Hid (okP h.p=false):=hok;clear hok;obtain⟨r0,r1,r2,r3⟩:=Qb hR1;obtain⟨f0,f1,f2,f3⟩:=Qo hR1;have hltR:=hR1.lt;have hneR:¬w.heap.size+1=w1.heap.size:=by omega
  go_wp2;obtain⟨kq,bq⟩:=QR hR1 (.slice none 0 0) (.slice none 0 0) (.slice none 0 0) (.slice none 0 0);obtain⟨z0,z1,z2,z3⟩:=Qb (bq.alloc (QhV #[] 3));have hbE:=(ZS hB1 (C:=w.heap.size+1) (by omega) (.slice none 0 0) (.slice none 0 0) (.slice none 0 0) (.slice none 0 0)).alloc (ZS hB1 (C:=w.heap.size+1) (by omega) (.slice none 0 0) (.slice none 0 0) (.slice none 0 0) (.slice none 0 0)).size (QhV #[] 3);refine bodyPost_ret (v:=.tuple #[Hp.v Hp.nil,.slice (some ⟨w1.heap.size,0,none⟩) 0 0]) ?_ rfl ⟨Hp.nil,_,[],rfl,Hp.nil_ok,fun W _=>Hp.nil_ok.fit (Hp.nil_in _) (fun i hi=>by simp[Hp.nil]at hi),?own,fun _=>⟨rfl,rfl⟩,fun q=>absurd q (by rw[HOK.out];simp),hbE,fun q _=>⟨fun h=>absurd h (by decide),fun i hi=>by simp[Hp.nil]at hi,fun h=>absurd h (by decide),fun h=>absurd h (by decide),fun h=>absurd h (by decide)⟩⟩
  ·simp[results,Tryz.results9,go_sem,z0,z1,z2,z3,Hp.v,Hp.nil]
  case own=>
   have e4:((((w1.setCell ⟨w.heap.size+1,0,none⟩ (.slice none 0 0)).setCell ⟨w.heap.size+1,1,none⟩ (.slice none 0 0)).setCell ⟨w.heap.size+1,2,none⟩ (.slice none 0 0)).setCell ⟨w.heap.size+1,3,none⟩ (.slice none 0 0)).heap.size=w1.heap.size:=by simp[World.setCell]
   have hh:=heap_alloc_new ((((w1.setCell ⟨w.heap.size+1,0,none⟩ (.slice none 0 0)).setCell ⟨w.heap.size+1,1,none⟩ (.slice none 0 0)).setCell ⟨w.heap.size+1,2,none⟩ (.slice none 0 0)).setCell ⟨w.heap.size+1,3,none⟩ (.slice none 0 0)) (QhV #[] 3);rw[e4]at hh;exact⟨rfl,Or.inr ⟨w1.heap.size,0,#[],rfl,by omega,hh,QhY _,Qh3 _,rfl,rfl⟩⟩
 |true=>
  have c:=YZ hok;have HOK:Hid (okP h.p=true):=hok;clear hok;have c2:=Ut h w1 (hf.isIn.below hB1 (QhY _)) hf.small;simp only[Hp.v]at c2;obtain⟨x0,x1,x2,x3⟩:=Qu hK1;go_wp2_with fail;refine c2.mono ?_;rintro e w2 ⟨y,rfl,hyp,hyq,hb2⟩;have cy:=OkC.of_p hyp c;have HYP:Hid (y.p=h.p):=hyp;have hB2:=hB1.trans (hb2.mono hB1.size);have hR2:=hR1.step hb2;have c3:=QeP y w2 hyq.isIn cy hyq.cap;simp only[Hp.v]at c3;have hcy:=hyq.cap;have hlt1:=hR1.lt;have hsz2:=hb2.size;clear c2 hyp hyq hb2 hB1 hR1 hK1 x0 x1 x2 x3;go_wp2_with fail;refine c3.mono ?_;rintro e w3 ⟨g,kv,X,rfl,hgo,hgr',cg,hgi,hkn,hpl,hb3,hXe,hie⟩;obtain⟨xa,xcap,rfl,sx,-⟩:=hkn.form;have HGO:Hid (g.os=y.os):=hgo
  have HALL:Hid (g.os.map Ob.p=h.os.map Ob.p∧g.rs=h.rs∧X=traceF (h.os.map Ob.p) g.ds 61 0 (putAll [] h.rs)∧∃(n:Nat) (K:List Int),itS (h.os.map Ob.p) n (h.ws,h.ds,traceF (h.os.map Ob.p) h.ds 61 0 (putAll [] h.rs))=(g.ws,g.ds,K)∧Ql g.ws K=[]):=by
   have hq:=HYP.out;simp only[Hp.p,Prod.mk.injEq]at hq;obtain⟨q1,q2,q3,q4⟩:=hq;rw[q1,q2,q3,q4]at hie;rw[q1,q2]at hXe;refine⟨by rw[hgo];exact q1,by rw[hgr'];exact q2,hXe,hie⟩
  clear hXe hie;have hgcap:∀(i:Nat) (hi:i<g.os.length),g.os[i].r.length≤g.os[i].rcap:=by rw[hgo];exact hcy
  have hplg:Qr g.os.length X:=by rw[hgo];exact hpl
  have hB3:=hB2.trans (hb3.mono hB2.size);have hA4:=QC w3 (QhV #[QhR g.oa g.os.length g.ocap,QhR g.ra g.rs.length g.rcap,QhR g.wa g.ws.length g.wcap,QhR g.da g.ds.length g.dcap] 27);have G4:CoG w (w3.alloc (QhV #[QhR g.oa g.os.length g.ocap,QhR g.ra g.rs.length g.rcap,QhR g.wa g.ws.length g.wcap,QhR g.da g.ds.length g.dcap] 27)) w3.heap.size g xa X:=⟨by simp,Blk.new w3 [QhR g.oa g.os.length g.ocap,QhR g.ra g.rs.length g.rcap,QhR g.wa g.ws.length g.wcap,QhR g.da g.ds.length g.dcap] 27,(hR2.step hb3).step hA4,hB3.trans (hA4.mono hB3.size),hgi.below hA4 (QhY _),cg,sx.below hA4 (QhY _),hplg,by have:=hb3.size;simp;omega⟩;clear c3 hgo hgr' hkn hpl hb3 hB2 hR2 hB3 hA4 hcy hgi sx hplg hlt1 hsz2 cy cg HYP HGO c;obtain⟨k4,hk4⟩:∃k4,k4=w3.alloc (QhV #[QhR g.oa g.os.length g.ocap,QhR g.ra g.rs.length g.rcap,QhR g.wa g.ws.length g.wcap,QhR g.da g.ds.length g.dcap] 27):=⟨_,rfl⟩;have HK4:Hid (k4=w3.alloc (QhV #[QhR g.oa g.os.length g.ocap,QhR g.ra g.rs.length g.rcap,QhR g.wa g.ws.length g.wcap,QhR g.da g.ds.length g.dcap] 27)):=hk4;rw[←hk4]at G4;clear hk4;go_wp2;rw[←HK4.out];clear HK4;generalize w3.heap.size=m at G4⊢;have hgl:=G4.gk.n60;have hxl:=G4.pl.len
  have M0:∃L:List Int,L.length=0∧whs X 0=L∧Qa ((k4.alloc (QhV #[QhR none 0 0,QhR none 0 0,QhR none 0 0,QhR none 0 0] 27)).alloc (QhV #[] 3)) (m+1) (.slice (some ⟨m+1+1,0,none⟩) 0 0) L∧Blk ((k4.alloc (QhV #[QhR none 0 0,QhR none 0 0,QhR none 0 0,QhR none 0 0] 27)).alloc (QhV #[] 3)) (m+1) [QhR none 0 0,QhR none 0 0,QhR none 0 0,QhR none 0 0] 27∧Below (m+1) k4 ((k4.alloc (QhV #[QhR none 0 0,QhR none 0 0,QhR none 0 0,QhR none 0 0] 27)).alloc (QhV #[] 3)):=by
   refine⟨[],rfl,rfl,?_,?_,?_⟩
   ·have:=World.ownsRow_lit (e:=3) (size:=1) (base:=m+1) (k4.alloc (QhV #[QhR none 0 0,QhR none 0 0,QhR none 0 0,QhR none 0 0] 27)) #[] 0 (by rw[Qh4,G4.hm];omega) (Qh3 _) rfl;rw[Qh4,G4.hm]at this;exact this
   ·have:=(Blk.new k4 [QhR none 0 0,QhR none 0 0,QhR none 0 0,QhR none 0 0] 27).alloc (QhV #[] 3);rw[G4.hm]at this;exact this
   ·exact((Below.refl _ _).alloc (by rw[G4.hm];exact QhY _) _).alloc (by rw[Qh4,G4.hm];omega) _
  go_loopw [7,8] (fun v i wr=>∃(k:Nat) (L:List Int),k≤g.os.length∧i=.int .i64 k∧L.length=k∧whs X k=L∧Qa wr (m+1) v L∧Blk wr (m+1) [QhR none 0 0,QhR none 0 0,QhR none 0 0,QhR none 0 0] 27∧Below (m+1) k4 wr) (fun _ i _=>g.os.length-(intOf i).toNat)
  case atStart=>obtain⟨L,q1,q2,q3,q4,q5⟩:=M0;exact⟨0,L,Qh3 _,rfl,q1,q2,q3,q4,q5⟩
  case round=>
   obtain⟨k,L,hk,rfl,hL,hLw,hown,hbx,hb⟩:=hrel;have HLW:Hid (whs X k=L):=hLw;clear hLw;clear M0;obtain⟨x0,x1,x2,x3⟩:=Qu (G4.bg.below hb (by omega));by_cases hlt:k<g.os.length
   ·have sx:=G4.kn.below hb (Qh2 G4.hm);obtain⟨va,vcap,rfl,-⟩:=hown.form;have hL':L.length≤k:=by omega
    have HL:Hid (L.length=k):=hL;clear hL;go_wp2_with fail;refine(JZ xa _ xcap X (k:Int) _ rfl (by unfold maxLen;omega) sx).mono ?_;rintro e w5 ⟨rfl,rfl⟩;have hvA:(w5.alloc (QhV #[QhW .i64 (pos X k)] 3)).ownsRow (m+1) 3 1 (.slice va L.length vcap) L.length (L.map (QhW .i64)):=World.ownsRow.alloc hown _;have hA:=QC w5 (QhV #[QhW .i64 (pos X k)] 3);have hsz:m+1≤w5.heap.size:=by have:=hb.size;rw[G4.hm]at this;omega
    have HEND:Hid (∀v' w6,w6.ownsRow (m+1) 3 1 v' (L.length+1) (L.map (QhW .i64)++ [.int .i64 (pos X k)])→(w5.alloc (QhV #[QhW .i64 (pos X k)] 3)).grownBy w6 (QhR va L.length vcap).ownBlock→Qa w6 (m+1) v' (L++ [pos X k])∧Blk w6 (m+1) [QhR none 0 0,QhR none 0 0,QhR none 0 0,QhR none 0 0] 27∧Below (m+1) k4 w6):=fun v' w6 ho hg=>by
     refine⟨by unfold Qa;simpa using ho,(hbx.step hA).grown hg (Qs hvA (hbx.step hA) (by decide)),(hb.trans (hA.mono hsz)).trans (QJ hg (Nat.le_trans hsz hA.size) (fun q e=>(hown.lt q e).1))⟩
    have hs5:m+1≤(w5.alloc (QhV #[QhW .i64 (pos X k)] 3)).heap.size:=Nat.le_trans hsz hA.size;have hl1:L.length+1≤maxLen:=by unfold maxLen;omega
    have hl2:(L.length+1)*8≤140737488355328:=by omega
    clear hA hown hbx hb sx;go_wp2_with (at_builtin;refine wpList_append_own_at _ rfl _ _ 24 rfl (m+1) 3 i0 (.int .i64 0) 1 8 ((Cut.under_eq 24).trans Tryz.underlying24) hi hz0 hz1 hz2 rfl (by decide) _ _ _ rfl hvA ⟨w5.heap.size,0,none⟩ 1 1 [.int .i64 (pos X k)] rfl rfl (cell_one_new _ _ _) (UT [pos X k]) hl1 hl2 hs5 ?_);intro v' w6 hown6 hgr6 _ _;obtain⟨q1,q2,q3⟩:=HEND.out v' w6 hown6 hgr6;clear hown6 hgr6 HEND hvA;go_wp2;go_roundw
    case rel=>exact⟨k+1,_,by omega,by go_num,by have:=HL.out;simp;omega,by rw[QhK,HLW.out],q1,q2,q3⟩
    case measure=>simp[intOf];omega
   ·obtain⟨ma,mc,rfl,-⟩:=hown.form;have P0:Yy (.slice ma L.length mc) L k4 m wr [] (.slice none 0 0) ((pick g.os (X.take 0)).map (QI X)):=⟨rfl,hbx,World.ownsRow_nil _ _ _ _,QN.nil _ _,hb,hown⟩
    have HL0:Hid (L=whs X g.os.length):=by
     show _=_;rw[←HLW.out,show k=g.os.length by omega]
    have hsL:L.length≤60:=by omega
    generalize hmL:L.length=mL at *;have HML:Hid (L.length=mL):=hmL;clear hmL hL hown hbx hb HLW;generalize L=L0 at *;obtain⟨GA,hGA⟩:∃GA,g.oa=GA:=⟨_,rfl⟩;have HGA:Hid (g.oa=GA):=hGA;rw[hGA]at x0;clear hGA;go_wp2;clear x0 x1 x2 x3;go_loopw [9,10,11] (fun i _ _ wq=>∃(k:Nat) (l:List Ob) (vo:Value),k≤X.length∧i=.int .i64 k∧Yy (.slice ma mL mc) L0 k4 m wq l vo ((pick g.os (X.take k)).map (QI X))) (fun i _ _ _=>X.length-(intOf i).toNat)
    case atStart=>exact⟨0,[],_,Qh3 _,rfl,P0⟩
    case round=>
     obtain⟨k,l,vo,hk,rfl,P⟩:=hrel;clear P0;by_cases hlt:k<X.length
     ·have hx0:=(Qu (G4.bg.below P.be (by omega))).1;rw[HGA.out]at hx0;obtain⟨b6,o6,rfl,hb6,e6⟩:=G4.kn.get hlt;have d6:=(P.be.cell (p:=⟨b6,o6+k,none⟩) (by rw[G4.hm]at hb6;exact hb6)).trans e6;obtain⟨hzl,hzh⟩:=G4.pl.rng X[k] (List.getElem_mem hlt);have hzn:X[k].toNat<g.os.length:=by omega
      obtain⟨b,off,eo,hbo,e1,e2,e3⟩:=G4.gi.so.get hzn;rw[HGA.out]at eo;subst eo;have hbo':b<m+1:=by rw[←G4.hm];exact hbo
      have d1:=(P.be.cell (p:=⟨b,off+X[k].toNat*3,none⟩) hbo').trans e1;have d2:=(P.be.cell (p:=⟨b,off+X[k].toNat*3+1,none⟩) hbo').trans e2;have d3:=(P.be.cell (p:=⟨b,off+X[k].toNat*3+2,none⟩) hbo').trans e3
      have HF:Hid ((pick g.os (X.take (k+1))).map (QI X)=(pick g.os (X.take k)).map (QI X)++ [QI X g.os[X[k].toNat]]):=by
       show _=_;rw[QaE hlt hzn,List.map_append];rfl
      have sr:=(G4.gi.so.2 _ hzn).below P.be (Qh2 G4.hm);have hrl:=(G4.gk.kind _ hzn).1;have hrr:=G4.gk.refs _ hzn;have hi1:(k:Int)<(X.length:Int):=by omega
      clear e1 e2 e3 e6;generalize g.os[X[k].toNat]=o at *;generalize X[k]=z at *;have hdr:Below wr.heap.size wr wr.drew:=(Below.refl _ _).drew;have hms:m+1≤wr.heap.size:=Qh5 P.bx.lt;have c5:∀W,Below wr.heap.size wr W→_:=fun W hbW=>K5 o W (sr.below hbW (QhY _)) (by omega)
      have HS:Hid (∀W,Below wr.heap.size wr W→(fun(W':World)=>W'.cell? ⟨m,0,none⟩=some (.slice (some ⟨b,off,none⟩) g.os.length g.ocap)∧W'.cell? ⟨b6,o6+k,none⟩=some (.int .i64 z)∧W'.cell? ⟨b,off+z.toNat*3,none⟩=some (.int .i64 o.k)∧W'.cell? ⟨b,off+z.toNat*3+1,none⟩=some (.string o.t)∧W'.cell? ⟨b,off+z.toNat*3+2,none⟩=some (.slice o.ra o.r.length o.rcap)) W):=fun W hbW=>by
       have l1:m<wr.heap.size:=by omega
       have l2:b6<wr.heap.size:=by have:=hb6;rw[G4.hm]at this;omega
       have l3:b<wr.heap.size:=by omega
       exact⟨(hbW.cell (p:=⟨m,0,none⟩) l1).trans hx0,(hbW.cell (p:=⟨b6,o6+k,none⟩) l2).trans d6,(hbW.cell (p:=⟨b,off+z.toNat*3,none⟩) l3).trans d1,(hbW.cell (p:=⟨b,off+z.toNat*3+1,none⟩) l3).trans d2,(hbW.cell (p:=⟨b,off+z.toNat*3+2,none⟩) l3).trans d3⟩
      have HC5:Hid (∀W,Below wr.heap.size wr W→Calls Cut.prog 37 #[.agg #[.int .i64 o.k,.string o.t,.slice o.ra o.r.length o.rcap]] W fun e w'=>∃(a:Option Addr) (c:Nat),e=.returned (.agg #[.int .i64 o.k,.string o.t,.slice a o.r.length c])∧Qa w' W.heap.size (.slice a o.r.length c) o.r∧Below W.heap.size W w'):=fun W hbW=>c5 W hbW;clear c5;go_wp2_with fail;go_cut [10]from 39 to 77 (fun s10 wx=>∃(mo:Nat) (a:Option Addr) (cc:Nat),s10=.pointer (some ⟨mo,0,none⟩)∧JX (.slice ma mL mc) L0 k4 m wx l vo ((pick g.os (X.take k)).map (QI X)) wr.heap.size mo o X a cc 0)
      case first=>
       have hS:=HS.out wr.drew hdr
       have HFIN:Hid (∀(W:World) (mo:Nat) (a:Option Addr) (cc:Nat),Below wr.heap.size wr W→wr.heap.size≤mo→Blk W mo [QhW .i64 0,QhX ⟨#[]⟩,QhR none 0 0] 37→Qa W wr.heap.size (.slice a o.r.length cc) o.r→(fun(W':World)=>W'.cell? ⟨m,0,none⟩=some (.slice (some ⟨b,off,none⟩) g.os.length g.ocap)∧W'.cell? ⟨b6,o6+k,none⟩=some (.int .i64 z)∧W'.cell? ⟨b,off+z.toNat*3,none⟩=some (.int .i64 o.k)∧W'.cell? ⟨b,off+z.toNat*3+1,none⟩=some (.string o.t)∧W'.cell? ⟨b,off+z.toNat*3+2,none⟩=some (.slice o.ra o.r.length o.rcap)) (((W.setCell ⟨mo,0,none⟩ (.int .i64 o.k)).setCell ⟨mo,1,none⟩ (.string o.t)).setCell ⟨mo,2,none⟩ (.slice a o.r.length cc))∧JX (.slice ma mL mc) L0 k4 m (((W.setCell ⟨mo,0,none⟩ (.int .i64 o.k)).setCell ⟨mo,1,none⟩ (.string o.t)).setCell ⟨mo,2,none⟩ (.slice a o.r.length cc)) l vo ((pick g.os (X.take k)).map (QI X)) wr.heap.size mo o X a cc 0):=fun W mo a cc hbW hmo hbl ho=>by
        have hbF:=((hbW.setCell (p:=⟨mo,0,none⟩) hmo (.int .i64 o.k)).setCell (p:=⟨mo,1,none⟩) hmo (.string o.t)).setCell (p:=⟨mo,2,none⟩) hmo (.slice a o.r.length cc);have nr:=Qs ho hbl (by decide);refine⟨HS.out _ hbF,P.step hbF,((hbl.store 0 _).store 1 _).store 2 _,?_,fun i hi q hq=>(P.rs.lt i hi q hq).2,hms,fun q hq=>(P.mv.lt q hq).2⟩;rw[Qar];exact ownsRow_setCell_other (ownsRow_setCell_other (ownsRow_setCell_other ho nr _) nr _) nr _
       refine wp_region_held_drew (S:=(fun(W':World)=>W'.cell? ⟨m,0,none⟩=some (.slice (some ⟨b,off,none⟩) g.os.length g.ocap)∧W'.cell? ⟨b6,o6+k,none⟩=some (.int .i64 z)∧W'.cell? ⟨b,off+z.toNat*3,none⟩=some (.int .i64 o.k)∧W'.cell? ⟨b,off+z.toNat*3+1,none⟩=some (.string o.t)∧W'.cell? ⟨b,off+z.toNat*3+2,none⟩=some (.slice o.ra o.r.length o.rcap))) (by kernel_rfl) hS (fun hHeld=>?_);clear hHeld;generalize hWD:wr.drew=WD at hdr hS⊢;clear hWD;refine tk 0 45 rfl rfl hS ?_;simp only[QhS,QhT,QhU];refine tk 1 46 rfl rfl hS ?_;simp only[QhS,QhT,QhU];refine tk 2 47 rfl rfl hS ?_;simp only[QhS,QhT,QhU];refine tk 3 48 rfl rfl hS ?_;simp only[QhS,QhT,QhU];refine tk 4 49 rfl rfl hS ?_;simp only[QhS,QhT,QhU];refine tk 5 50 rfl rfl hS ?_;simp only[QhS,QhT,QhU];refine tk 6 51 rfl rfl hS ?_;simp only[QhS,QhT,QhU];refine tk 7 52 rfl rfl hS ?_;simp only[QhS,QhT,QhU];refine wpAnyH_ready (rs:=[8,9]) (by kernel_rfl) (by simp) ?_;refine AllReadyH.cons (o:=_) rfl (fun K hK=>?cl) (AllReadyH.cons (o:=_) rfl (fun K hK=>?al) AllReadyH.nil)
       case cl=>
        go_simp;refine(HC5.out WD hdr).mono ?_;rintro e w6 ⟨a,cc,rfl,ho,hb6'⟩;have hbw:=hdr.trans (hb6'.mono hdr.size);have hS6:=HS.out w6 hbw;go_wp2_with fail;refine hK.out _ _ hS6 (fun _=>?_);clear hK K
        try simp only[Act.put,QhZ,Qh0,Qh1,QhS,QhT,QhU]
        refine wpAnyH_ready (rs:=[9]) (by kernel_rfl) (by simp) ?_;refine AllReadyH.cons (o:=_) rfl (fun K hK=>?_) AllReadyH.nil;have hAl:=QC w6 (QhV #[QhW .i64 0,QhX ⟨#[]⟩,QhR none 0 0] 37);have hNb:=Blk.new w6 [QhW .i64 0,QhX ⟨#[]⟩,QhR none 0 0] 37;go_simp;obtain⟨W7,hW7⟩:∃W7,W7=w6.alloc (QhV #[QhW .i64 0,QhX ⟨#[]⟩,QhR none 0 0] 37):=⟨_,rfl⟩;rw[←hW7]at hAl⊢;replace hNb:Blk W7 w6.heap.size [QhW .i64 0,QhX ⟨#[]⟩,QhR none 0 0] 37:=by rw[hW7];exact hNb
        clear hW7;have hbw7:=hbw.trans (hAl.mono hbw.size);have hS7:=HS.out W7 hbw7;refine hK.out _ _ hS7 (fun _=>?_);clear hK K
        try simp only[Act.put,QhZ,Qh0,Qh1,QhS,QhT,QhU]
        obtain⟨hS8,hR8⟩:=HFIN.out W7 w6.heap.size a cc hbw7 hbw.size hNb ((ho.below hAl (QhY _)).base hdr.size);obtain⟨n0,n1,n2⟩:W7.cell? ⟨w6.heap.size,0,none⟩=some (.int .i64 0)∧W7.cell? ⟨w6.heap.size,1,none⟩=some (.string ⟨#[]⟩)∧W7.cell? ⟨w6.heap.size,2,none⟩=some (.slice none 0 0):=⟨hNb.cell 0,hNb.cell 1,hNb.cell 2⟩;have p0:=hNb.free 0;have p1:=hNb.free 1;have p2:=hNb.free 2;refine wpAnyH_ready (rs:=[10]) (by kernel_rfl) (by simp) ?_;refine AllReadyH.cons (o:=_) rfl (fun K hK=>?_) AllReadyH.nil;go_simp;refine hK.out _ _ hS8 (fun _=>?_);clear hK K
        try simp only[Act.put,QhZ,Qh0,Qh1,QhS,QhT,QhU]
        refine wpAnyH_done (by kernel_rfl) ?_ _;go_wp2_with fail;go_meet
        case rel=>exact⟨_,_,_,rfl,hR8⟩
       case al=>
        have hAl:=QC WD (QhV #[QhW .i64 0,QhX ⟨#[]⟩,QhR none 0 0] 37);have hNb:=Blk.new WD [QhW .i64 0,QhX ⟨#[]⟩,QhR none 0 0] 37;go_simp;obtain⟨W7,hW7⟩:∃W7,W7=WD.alloc (QhV #[QhW .i64 0,QhX ⟨#[]⟩,QhR none 0 0] 37):=⟨_,rfl⟩;rw[←hW7]at hAl⊢;replace hNb:Blk W7 WD.heap.size [QhW .i64 0,QhX ⟨#[]⟩,QhR none 0 0] 37:=by rw[hW7];exact hNb
        clear hW7;have hbw7:=hdr.trans (hAl.mono hdr.size);have hS7:=HS.out W7 hbw7;refine hK.out _ _ hS7 (fun _=>?_);clear hK K
        try simp only[Act.put,QhZ,Qh0,Qh1,QhS,QhT,QhU]
        refine wpAnyH_ready (rs:=[8]) (by kernel_rfl) (by simp) ?_;refine AllReadyH.cons (o:=_) rfl (fun K hK=>?_) AllReadyH.nil;go_simp;refine(HC5.out W7 hbw7).mono ?_;rintro e w6 ⟨a,cc,rfl,ho,hb6'⟩;have hbw:=hbw7.trans (hb6'.mono hbw7.size);have hS6:=HS.out w6 hbw;have hNb6:=hNb.step hb6';go_wp2_with fail;refine hK.out _ _ hS6 (fun _=>?_);clear hK K
        try simp only[Act.put,QhZ,Qh0,Qh1,QhS,QhT,QhU]
        obtain⟨hS8,hR8⟩:=HFIN.out w6 WD.heap.size a cc hbw hdr.size hNb6 (ho.base hbw7.size);obtain⟨n0,n1,n2⟩:w6.cell? ⟨WD.heap.size,0,none⟩=some (.int .i64 0)∧w6.cell? ⟨WD.heap.size,1,none⟩=some (.string ⟨#[]⟩)∧w6.cell? ⟨WD.heap.size,2,none⟩=some (.slice none 0 0):=⟨hNb6.cell 0,hNb6.cell 1,hNb6.cell 2⟩;have p0:=hNb6.free 0;have p1:=hNb6.free 1;have p2:=hNb6.free 2;refine wpAnyH_ready (rs:=[10]) (by kernel_rfl) (by simp) ?_;refine AllReadyH.cons (o:=_) rfl (fun K hK=>?_) AllReadyH.nil;go_simp;refine hK.out _ _ hS8 (fun _=>?_);clear hK K
        try simp only[Act.put,QhZ,Qh0,Qh1,QhS,QhT,QhU]
        refine wpAnyH_done (by kernel_rfl) ?_ _;go_wp2_with fail;go_meet
        case rel=>exact⟨_,_,_,rfl,hR8⟩
      case rest=>
       obtain⟨mo,a,cc,rfl,R0⟩:=hcut;have hM1:m+1≤wr.heap.size:=hms;generalize wr.heap.size=M at R0 hM1;have hkx:=hi1;have HKX:Hid (k<X.length):=hlt;clear HC5 HS hdr d1 d2 d3 d6 hx0 sr;have sX:∀W,Below (m+1) k4 W→Qi W (some ⟨b6,o6,none⟩) X:=fun W hbW=>G4.kn.below hbW (Qh2 G4.hm);have SX:Hid (∀W,Below (m+1) k4 W→Qi W (some ⟨b6,o6,none⟩) X):=sX;clear sX;go_wp2;go_loopw [11] (fun i wq=>∃j:Nat,j≤o.r.length∧i=.int .i64 j∧JX (.slice ma mL mc) L0 k4 m wq l vo ((pick g.os (X.take k)).map (QI X)) M mo o X a cc j) (fun i _=>o.r.length-(intOf i).toNat)
       case atStart=>exact⟨0,Qh3 _,rfl,R0⟩
       case round=>
        obtain⟨j,hj,rfl,R⟩:=hrel;clear R0;obtain⟨o0,o1,o2⟩:wr.cell? ⟨mo,0,none⟩=some (.int .i64 o.k)∧wr.cell? ⟨mo,1,none⟩=some (.string o.t)∧wr.cell? ⟨mo,2,none⟩=some (.slice a o.r.length cc):=⟨R.bo.cell 0,R.bo.cell 1,R.bo.cell 2⟩;by_cases hjl:j<o.r.length
        ·have hml:=UW (wh X) o.r j hj;obtain⟨ga,rfl⟩:=R.ro.ptr (by omega);have hel':=R.ro.at (k:=j) (by omega);rw[Pf _ _ _ hjl]at hel';have hdr:Below wr.heap.size wr wr.drew:=(Below.refl _ _).drew;have Rd:=R.step hdr;have hS:(fun(W':World)=>W'.cell? ⟨mo,2,none⟩=some (.slice (some ⟨ga,0,none⟩) o.r.length cc)) wr.drew:=o2;have c6:=Uv (some ⟨b6,o6,none⟩) X.length xcap X o.r[j] wr.drew rfl (by unfold maxLen;omega) (SX.out wr.drew Rd.pc.be);have hed:wr.drew.cell? ⟨ga,j,none⟩=some (.int .i64 o.r[j]):=hel';have hfd:=Rd.ro.free j;have hj1:(j:Int)<(o.r.length:Int):=by omega
         have R3:=Rd.set hjl;have hS3:(fun(W':World)=>W'.cell? ⟨mo,2,none⟩=some (.slice (some ⟨ga,0,none⟩) o.r.length cc)) (wr.drew.setCell ⟨ga,j,none⟩ (.int .i64 (wh X o.r[j]))):=R3.bo.cell 2;generalize o.r[j]=rz at *;generalize hWZ:wh X rz=wz at *;clear hWZ hel' Rd hdr hml;go_wp2_with fail;refine wp_region_held_drew (S:=(fun(W':World)=>W'.cell? ⟨mo,2,none⟩=some (.slice (some ⟨ga,0,none⟩) o.r.length cc))) (by kernel_rfl) hS (fun hHeld=>?_);clear hHeld;generalize hWD:wr.drew=WD at hS hed hfd c6 R3 hS3⊢;clear hWD;refine tk 0 61 rfl rfl hS ?_;simp only[QhS,QhT,QhU];refine tk 1 62 rfl rfl hS ?_;simp only[QhS,QhT,QhU];refine tk 2 63 rfl rfl hS ?_;simp only[QhS,QhT,QhU];refine tk 3 64 rfl rfl hS ?_;simp only[QhS,QhT,QhU];refine tk 4 65 rfl rfl hS ?_;simp only[QhS,QhT,QhU];refine tk 5 66 rfl rfl hS ?_;simp only[QhS,QhT,QhU];refine tk 6 67 rfl rfl hS ?_;simp only[QhS,QhT,QhU];refine tk 7 68 rfl rfl hS ?_;simp only[QhS,QhT,QhU];refine wpAnyH_ready (rs:=[8]) (by kernel_rfl) (by simp) ?_;refine AllReadyH.cons (o:=_) rfl (fun K hK=>?_) AllReadyH.nil;go_simp;refine hK.out _ _ hS (fun _=>?_);clear hK K
         try simp only[Act.put,QhZ,Qh0,Qh1,QhS,QhT,QhU]
         refine wpAnyH_ready (rs:=[9]) (by kernel_rfl) (by simp) ?_;refine AllReadyH.cons (o:=_) rfl (fun K hK=>?_) AllReadyH.nil;go_simp;refine c6.mono ?_;rintro e w6 ⟨rfl,rfl⟩;go_wp2_with fail;refine hK.out _ _ hS (fun _=>?_);clear hK K
         try simp only[Act.put,QhZ,Qh0,Qh1,QhS,QhT,QhU]
         refine tk 10 71 rfl rfl hS ?_;simp only[QhS,QhT,QhU];refine wpAnyH_ready (rs:=[11]) (by kernel_rfl) (by simp) ?_;refine AllReadyH.cons (o:=_) rfl (fun K hK=>?_) AllReadyH.nil;go_simp;refine hK.out _ _ hS3 (fun _=>?_);clear hK K
         try simp only[Act.put]
         refine wpAnyH_done (by kernel_rfl) ?_ _;clear c6 hS;go_wp2;go_roundw
         case rel=>exact⟨j+1,by omega,by go_num,R3⟩
         case measure=>simp[intOf];omega
        ·obtain rfl:j=o.r.length:=by omega
         obtain⟨va,vcap,rfl,-,-⟩:=R.pc.ob.form;have q0:=R.pc.bx.cell 0;have qf:=R.pc.bx.free 0;simp only[List.getElem?_cons_zero]at q0;have hA:=QC wr (QhV #[QhW .i64 o.k,QhX o.t,QhR a o.r.length cc] 37);have RA:=R.step hA;have hvA:(wr.alloc (QhV #[QhW .i64 o.k,QhX o.t,QhR a o.r.length cc] 37)).ownsRow (m+1) 37 3 (.slice va l.length vcap) l.length (l.flatMap Ob.cs):=RA.pc.ob;have hsA:m+1≤(wr.alloc (QhV #[QhW .i64 o.k,QhX o.t,QhR a o.r.length cc] 37)).heap.size:=Qh5 RA.pc.bx.lt
         have hll:l.length≤60:=by
          have:=congrArg List.length R.pc.mp;simp only[Qh6,Ju,List.length_take]at this;omega
         have HEND:Hid (∀q cap w6,w6.ownsRow (m+1) 37 3 (.slice (some ⟨q,0,none⟩) (l.length+1) cap) (l.length+1) (l.flatMap Ob.cs++ [QhW .i64 o.k,QhX o.t,QhR a o.r.length cc])→(wr.alloc (QhV #[QhW .i64 o.k,QhX o.t,QhR a o.r.length cc] 37)).grownBy w6 (QhR va l.length vcap).ownBlock→(Yy (.slice ma mL mc) L0 k4 m (w6.setCell ⟨m+1,0,none⟩ (.slice (some ⟨q,0,none⟩) (l.length+1) cap)) (l++ [⟨o.k,o.t,a,cc,o.r.map (wh X)⟩]) (.slice (some ⟨q,0,none⟩) (l.length+1) cap) ((pick g.os (X.take (k+1))).map (QI X)))∧w6.cell? ⟨m+1,0,none⟩=some (.slice va l.length vcap)∧w6.frozen? ⟨m+1,0,none⟩=false):=fun q cap w6 ho hg=>by
          have hN:=R.next q cap ho hg;have b6':=RA.pc.bx.grown hg (Qs hvA RA.pc.bx (by decide));rw[HF.out];exact⟨hN,b6'.cell 0,b6'.free 0⟩
         have hl1:l.length+1≤maxLen:=by unfold maxLen;omega
         have hl2:(l.length+1)*48≤140737488355328:=by omega
         clear hA RA;go_wp2_with (at_builtin;refine wpList_append_lies _ rfl _ _ 23 rfl (m+1) 37 n0 _ 3 48 ((Cut.under_eq 23).trans Tryz.underlying23) hn hn0 hn1 hn2 rfl (by decide) _ _ _ rfl hvA ⟨wr.heap.size,0,none⟩ 1 1 [QhW .i64 o.k,QhX o.t,QhR a o.r.length cc] rfl rfl (Uz ⟨o.k,o.t,a,cc,o.r⟩ _) (Ob.one ⟨o.k,o.t,a,cc,o.r⟩) (by decide) hl1 hl2 hsA _ rfl ?_);intro q cap w6 hown6 hgr6 _ _;obtain⟨P9,q1,q2⟩:=HEND.out q cap w6 hown6 hgr6;clear hown6 hgr6 HEND hvA R;go_wp2;go_roundw
         case rel=>exact⟨k+1,_,_,by have:=HKX.out;omega,by go_num,P9⟩
         case measure=>have:=HKX.out;simp[intOf];omega
     ·have ek:X.take k=X:=Qh7 (by omega);rw[ek]at P;clear ek;obtain⟨va,vcap,rfl,-,-⟩:=P.ob.form;have HMP:Hid (l.map Ob.p=(pick g.os X).map (QI X)):=P.mp;have D0:J6 (.slice ma mL mc) L0 k4 m wr l (.slice va l.length vcap) wr.heap.size (.slice none 0 0) ((g.rs.take 0).map (wh X)):=⟨P.bx,P.ob,P.rs,fun i hi q e=>(P.rs.lt i hi q e).2,World.ownsRow_nil _ _ _ _,P.be,Qh5 P.bx.lt,QhY _,P.mv,fun q hq=>(P.mv.lt q hq).2⟩;generalize hNN:wr.heap.size=N at D0;clear hNN P;have hgr8:=G4.gk.r8;obtain⟨GR,hGR⟩:∃GR,g.ra=GR:=⟨_,rfl⟩;have HGR:Hid (g.ra=GR):=hGR;go_wp2;clear hGR;go_loopw [12] (fun i wq=>∃(k:Nat) (ra:Option Addr) (rcap:Nat),k≤g.rs.length∧i=.int .i64 k∧J6 (.slice ma mL mc) L0 k4 m wq l (.slice va l.length vcap) N (.slice ra ((g.rs.take k).map (wh X)).length rcap) ((g.rs.take k).map (wh X))) (fun i _=>g.rs.length-(intOf i).toNat)
      case atStart=>exact⟨0,none,0,Qh3 _,rfl,D0⟩
      case round=>
       obtain⟨k,ra,rcap,hk,rfl,D⟩:=hrel;clear D0;obtain⟨x0,x1,x2,x3⟩:=Qu (G4.bg.below D.be (by omega));rw[HGR.out]at x1;obtain⟨y0,y1,y2,y3⟩:=Qb D.bx;by_cases hlt:k<g.rs.length
       ·obtain⟨b,off,eo,hbo,e1⟩:=G4.gi.sr.get hlt;rw[HGR.out]at eo;subst eo;have hbo':b<m+1:=by rw[←G4.hm];exact hbo
        have d1:=(D.be.cell (p:=⟨b,off+k,none⟩) hbo').trans e1
        have HF:Hid ((g.rs.take (k+1)).map (wh X)=(g.rs.take k).map (wh X)++ [wh X g.rs[k]]):=by
         show _=_;rw[List.take_succ_eq_append_getElem hlt,List.map_append];rfl
        have hzl:((g.rs.take k).map (wh X)).length≤k:=by rw[Qh6];exact List.length_take_le _ _
        have hi1:(k:Int)<(g.rs.length:Int):=by omega
        generalize g.rs[k]=z at *;generalize hZS:(g.rs.take k).map (wh X)=zs at *;clear hZS e1;have hdr:Below wr.heap.size wr wr.drew:=(Below.refl _ _).drew;have Dd:=D.step hdr;have hC:(fun(W':World)=>W'.cell? ⟨m+1,1,none⟩=some (.slice ra zs.length rcap)∧W'.cell? ⟨m,1,none⟩=some (.slice (some ⟨b,off,none⟩) g.rs.length g.rcap)∧W'.cell? ⟨b,off+k,none⟩=some (.int .i64 z)) wr.drew:=⟨y1,x1,d1⟩;have c6:=Uv xa X.length xcap X z wr.drew rfl (by unfold maxLen;omega) (G4.kn.below Dd.be (Qh2 G4.hm))
        have HCC:Hid (∀W,Below wr.heap.size wr W→(fun(W':World)=>W'.cell? ⟨m+1,1,none⟩=some (.slice ra zs.length rcap)∧W'.cell? ⟨m,1,none⟩=some (.slice (some ⟨b,off,none⟩) g.rs.length g.rcap)∧W'.cell? ⟨b,off+k,none⟩=some (.int .i64 z)) W):=fun W hbW=>by
         have l1:m<wr.heap.size:=by have:=D.bx.lt;omega
         have l3:b<wr.heap.size:=by have:=D.bx.lt;omega
         exact⟨(hbW.cell (p:=⟨m+1,1,none⟩) D.bx.lt).trans y1,(hbW.cell (p:=⟨m,1,none⟩) l1).trans x1,(hbW.cell (p:=⟨b,off+k,none⟩) l3).trans d1⟩
        go_wp2_with fail;refine PQ (by kernel_rfl) 12 (fun(W':World)=>W'.cell? ⟨m+1,1,none⟩=some (.slice ra zs.length rcap)∧W'.cell? ⟨m,1,none⟩=some (.slice (some ⟨b,off,none⟩) g.rs.length g.rcap)∧W'.cell? ⟨b,off+k,none⟩=some (.int .i64 z)) ?_;generalize hWD:wr.drew=WD at hdr hC Dd c6⊢;clear hWD;refine Q3 (i:=0) (v:=?_) 85 rfl rfl rfl (by kernel_rfl) (by kernel_rfl) (by kernel_rfl) (by kernel_rfl) (by kernel_rfl) rfl (fun _ _ _ h=>h) (Or.inl ⟨by rfl,?_⟩) hC ?_;rotate_left
        ·intro W hSw
         try dsimp only at hSw
         go_simp
         try with_reducible rfl
        simp only[QhS,QhT,QhU];refine Q3 (i:=1) (v:=?_) 86 rfl rfl rfl (by kernel_rfl) (by kernel_rfl) (by kernel_rfl) (by kernel_rfl) (by kernel_rfl) rfl (fun _ _ _ h=>h) (Or.inl ⟨by rfl,?_⟩) hC ?_;rotate_left
        ·intro W hSw
         try dsimp only at hSw
         go_simp
         try with_reducible rfl
        simp only[QhS,QhT,QhU];refine Q3 (i:=2) (v:=?_) 87 rfl rfl rfl (by kernel_rfl) (by kernel_rfl) (by kernel_rfl) (by kernel_rfl) (by kernel_rfl) rfl (fun _ _ _ h=>h) (Or.inl ⟨by rfl,?_⟩) hC ?_;rotate_left
        ·intro W hSw
         try dsimp only at hSw
         go_simp
         try with_reducible rfl
        simp only[QhS,QhT,QhU];refine Q3 (i:=3) (v:=?_) 88 rfl rfl rfl (by kernel_rfl) (by kernel_rfl) (by kernel_rfl) (by kernel_rfl) (by kernel_rfl) rfl (fun _ _ _ h=>h) (Or.inl ⟨by rfl,?_⟩) hC ?_;rotate_left
        ·intro W hSw
         try dsimp only at hSw
         go_simp
         try with_reducible rfl
        simp only[QhS,QhT,QhU];refine Q3 (i:=4) (v:=?_) 89 rfl rfl rfl (by kernel_rfl) (by kernel_rfl) (by kernel_rfl) (by kernel_rfl) (by kernel_rfl) rfl (fun _ _ _ h=>h) (Or.inl ⟨by rfl,?_⟩) hC ?_;rotate_left
        ·intro W hSw
         try dsimp only at hSw
         go_simp
         try with_reducible rfl
        simp only[QhS,QhT,QhU];refine Q3 (i:=5) (v:=?_) 90 rfl rfl rfl (by kernel_rfl) (by kernel_rfl) (by kernel_rfl) (by kernel_rfl) (by kernel_rfl) rfl (fun _ _ _ h=>h) (Or.inl ⟨by rfl,?_⟩) hC ?_;rotate_left
        ·intro W hSw
         try dsimp only at hSw
         go_simp
         try with_reducible rfl
        simp only[QhS,QhT,QhU];refine Q3 (i:=6) (v:=?_) 91 rfl rfl rfl (by kernel_rfl) (by kernel_rfl) (by kernel_rfl) (by kernel_rfl) (by kernel_rfl) rfl (fun _ _ _ h=>h) (Or.inl ⟨by rfl,?_⟩) hC ?_;rotate_left
        ·intro W hSw
         try dsimp only at hSw
         go_simp
         try with_reducible rfl
        simp only[QhS,QhT,QhU];refine Q3 (i:=7) (v:=?_) 92 rfl rfl rfl (by kernel_rfl) (by kernel_rfl) (by kernel_rfl) (by kernel_rfl) (by kernel_rfl) rfl (fun _ _ _ h=>h) (Or.inl ⟨by rfl,?_⟩) hC ?_;rotate_left
        ·intro W hSw
         try dsimp only at hSw
         go_simp
         try with_reducible rfl
        simp only[QhS,QhT,QhU];refine JB (rs:=[8]) (by kernel_rfl) (by simp) ?_;refine QP.cons (o:=_) rfl (fun K hK=>?_) QP.nil;go_simp;refine c6.mono ?_;rintro e w6 ⟨rfl,rfl⟩;go_wp2_with fail;refine hK.out _ _ hC ?_;clear hK K
        try simp only[Act.put,QhZ,Qh0,Qh1,QhS,QhT,QhU]
        generalize hWZ:wh X z=wz at *;clear hWZ;have hA:=QC w6 (QhV #[QhW .i64 wz] 3);have DA:=Dd.step hA;have hbA:=hdr.trans (hA.mono hdr.size);have hCA:=HCC.out _ hbA;have hvA:(w6.alloc (QhV #[QhW .i64 wz] 3)).ownsRow N 3 1 (.slice ra zs.length rcap) zs.length (zs.map (QhW .i64)):=DA.rr;have hnw:=cell_one_new w6 (QhW .i64 wz) 3;refine JB (rs:=[9]) (by kernel_rfl) (by simp) ?_;refine QP.cons (o:=_) rfl (fun K hK=>?_) QP.nil;go_simp;generalize hWA:w6.alloc (QhV #[QhW .i64 wz] 3)=WA at DA hbA hCA hvA hnw⊢;clear hWA hA;refine hK.out _ _ hCA ?_;clear hK K
        try simp only[Act.put,QhZ,Qh0,Qh1,QhS,QhT,QhU]
        refine JB (rs:=[10]) (by kernel_rfl) (by simp) ?_;refine QP.cons (o:=_) rfl (fun K hK=>?_) QP.nil;refine step_append_lies _ rfl _ _ 24 rfl N 3 i0 (.int .i64 0) 1 8 ((Cut.under_eq 24).trans Tryz.underlying24) hi hz0 hz1 hz2 rfl (by decide) _ _ _ rfl hvA ⟨w6.heap.size,0,none⟩ 1 1 [.int .i64 wz] rfl rfl hnw (UT [wz]) (by decide) (by unfold maxLen;omega) (by omega) DA.sz _ rfl ?_;intro q cap w7 hown7 hgr7 _ _;have hr7:Qa w7 N (.slice (some ⟨q,0,none⟩) (zs.length+1) cap) (zs++ [wz]):=by unfold Qa;simpa using hown7
        obtain⟨D7,q1,q2,hb7⟩:=DA.next hgr7 hr7
        have hC7:(fun(W':World)=>W'.cell? ⟨m+1,1,none⟩=some (.slice ra zs.length rcap)∧W'.cell? ⟨m,1,none⟩=some (.slice (some ⟨b,off,none⟩) g.rs.length g.rcap)∧W'.cell? ⟨b,off+k,none⟩=some (.int .i64 z)) w7:=by
         have x:=Qu (G4.bg.below hb7 (by omega));rw[HGR.out]at x;exact⟨q1,x.2.1,(hb7.cell (p:=⟨b,off+k,none⟩) hbo').trans (((D.be.cell (p:=⟨b,off+k,none⟩) hbo').symm.trans d1))⟩
        refine hK.out _ _ hC7 ?_;clear hK K
        try simp only[Act.put,QhZ,Qh0,Qh1,QhS,QhT,QhU]
        refine Q3 (i:=11) (v:=?_) 96 rfl rfl rfl (by kernel_rfl) (by kernel_rfl) (by kernel_rfl) (by kernel_rfl) (by kernel_rfl) rfl (fun _ _ _ h=>h) (Or.inl ⟨by rfl,?_⟩) hC7 ?_;rotate_left
        ·intro W hSw
         try dsimp only at hSw
         go_simp
         try with_reducible rfl
        simp only[QhS,QhT,QhU];refine JB (rs:=[12]) (by kernel_rfl) (by simp) ?_;refine QP.last (o:=_) rfl (fun K hK=>?_) QP.nil;go_simp;refine hK.out _ _ ?_;clear hK K
        try simp only[Act.put]
        refine PN (by kernel_rfl) ?_ _
        have D8:Hid (J6 (.slice ma mL mc) L0 k4 m (w7.setCell ⟨m+1,1,none⟩ (.slice (some ⟨q,0,none⟩) (zs.length+1) cap)) l (.slice va l.length vcap) N (.slice (some ⟨q,0,none⟩) ((g.rs.take (k+1)).map (wh X)).length cap) ((g.rs.take (k+1)).map (wh X))):=by
         show J6 _ _ _ _ _ _ _ _ _ _;rw[HF.out];simpa using D7
        clear D7 hC7 hCA hC DA Dd D hown7 hgr7 hr7 hvA hnw HCC c6 q1 q2;go_wp2;go_roundw
        case rel=>exact⟨k+1,_,_,by omega,by go_num,D8.out⟩
        case measure=>simp[intOf];omega
       ·have ek:g.rs.take k=g.rs:=Qh7 (by omega);rw[ek]at D;clear ek;have hw20:=G4.gk.w20;have HRL:Hid ((g.rs.map (wh X)).length=g.rs.length):=Qh6 _;generalize hZS:g.rs.map (wh X)=zs at *;have HZS:Hid (g.rs.map (wh X)=zs):=hZS;clear hZS;have c7:=Qaf g.wa g.wcap g.ws xa xcap X wr (G4.gi.sw.below D.be (Qh2 G4.hm)) (by omega) (G4.kn.below D.be (Qh2 G4.hm)) (by unfold maxLen;omega);go_wp2_with fail;refine c7.mono ?_;rintro e w7 ⟨v7,rfl,ow7,hb7⟩;obtain⟨wa7,wc7,rfl,-⟩:=ow7.form;have D7:=D.step hb7;have HQ:Hid (m+1≤N∧N≤wr.heap.size∧wr.heap.size≤w7.heap.size):=⟨D.hN,D.sz,hb7.size⟩;have f7:=D7.bx.free 2;have k7:Qf 27 w7 (w7.setCell ⟨m+1,2,none⟩ (.slice wa7 (Qx g.ws X).length wc7)):=Qf.set D7.bx 2 _;have bx7:=D7.bx.store 2 (.slice wa7 (Qx g.ws X).length wc7);have be7:=D7.be.setCell (p:=⟨m+1,2,none⟩) (QhY _) (.slice wa7 (Qx g.ws X).length wc7);have c8:=Qaf g.da g.dcap g.ds xa xcap X _ (G4.gi.sd.below be7 (Qh2 G4.hm)) (by omega) (G4.kn.below be7 (Qh2 G4.hm)) (by unfold maxLen;omega);clear c7 x0 x1 x2 x3 y0 y1 y2 y3 D;obtain⟨x0,x1,x2,x3⟩:=Qu (G4.bg.below D7.be (by omega));obtain⟨y0,y1,y2,y3⟩:=Qb D7.bx;go_wp2_with fail;refine c8.mono ?_;rintro e w8 ⟨v8,rfl,od8,hb8⟩;obtain⟨da8,dc8,rfl,-⟩:=od8.form;have bx8:=bx7.step hb8;have be8:Below (m+1) k4 w8:=be7.trans (hb8.mono (Qh5 bx7.lt));have k8:Qf 27 (w7.setCell ⟨m+1,2,none⟩ (.slice wa7 (Qx g.ws X).length wc7)) w8:=Qf.below _ hb8 (QhY _);have k9:Qf 27 w8 (w8.setCell ⟨m+1,3,none⟩ (.slice da8 (Qx g.ds X).length dc8)):=Qf.set bx8 3 _;have f8:=bx8.free 3;have be9:=be8.setCell (p:=⟨m+1,3,none⟩) (QhY _) (.slice da8 (Qx g.ds X).length dc8);have hsz9:=G4.sz;have hm9:=G4.hm;have br8:=G4.br.below be8 (by omega);have br9:=br8.other ⟨m+1,3,none⟩ (.slice da8 (Qx g.ds X).length dc8) (by dsimp only;omega);obtain⟨kq,bq⟩:=QR br9 (.slice va l.length vcap) (.slice ra zs.length rcap) (.slice wa7 (Qx g.ws X).length wc7) (.slice da8 (Qx g.ds X).length dc8);have kA:=((k7.trans k8).trans k9).trans kq;have kB:=(k8.trans k9).trans kq;have hwk:=G4.be.size;have beE:=ZS (G4.be.trans (be9.mono (by omega))) (C:=w.heap.size+1) (by omega) (.slice va l.length vcap) (.slice ra zs.length rcap) (.slice wa7 (Qx g.ws X).length wc7) (.slice da8 (Qx g.ds X).length dc8);have obE:=Qm D7.ob kA (by decide);have rsE:QN _ (m+1) l:=D7.rs.keep kA;have rrE:=Qm D7.rr kA (by decide);have owE:=Qm ow7 kA (by decide);have odE:=Qm od8 (k9.trans kq) (by decide);have hinE:=O5 obE rsE rrE owE odE;have mvE:Qa _ (m+1) (.slice ma mL mc) L0:=Qm D7.mv kA (by decide)
        have HCP:Hid (CoP h.p (Hp.p ⟨va,vcap,l,ra,rcap,zs,wa7,wc7,Qx g.ws X,da8,dc8,Qx g.ds X⟩) L0):=by
         obtain⟨a1,a2,a3,n,K,a4,a5⟩:=HALL.out;have el:g.os.length=h.os.length:=by have:=congrArg List.length a1;simpa using this
         have a3':traceF h.p.1 g.ds 61 0 (putAll [] h.p.2.1)=X:=a3.symm;refine⟨n,K,g.ws,g.ds,a4,a5,?_,?_⟩
         ·rw[a3'];show(_,_,_,_)=_;rw[HMP.out,←HZS.out,a2,VO (by exact G4.pl.rng),a1];rfl
         ·rw[a3',HL0.out,el];simp[Hp.p]
        have cE:OkC ⟨va,vcap,l,ra,rcap,zs,wa7,wc7,Qx g.ws X,da8,dc8,Qx g.ds X⟩:=by
         rw[←HZS.out];exact G4.gk.collect G4.pl HMP.out _ _ _ _ _ _ _ _
        have fE:=fun(W:World) (hk:Qf 27 _ W)=>cE.fit (O5 (Qm obE hk (by decide)) (rsE.keep hk) (Qm rrE hk (by decide)) (Qm owE hk (by decide)) (Qm odE hk (by decide))) (rsE.keep hk).cap
        have avE:∀q,q<w.heap.size→QM ⟨va,vcap,l,ra,rcap,zs,wa7,wc7,Qx g.ws X,da8,dc8,Qx g.ds X⟩ (some q):=fun q hq=>by
         obtain⟨u1,u2,u3⟩:=HQ.out;exact⟨UK obE (by omega),fun i hi=>UK (rsE.own i hi) (by omega),UK rrE (by omega),UK owE (by omega),UK odE (by simp[World.setCell];omega)⟩
        obtain⟨z0,z1,z2,z3⟩:=Qb bq;clear x0 x1 x2 x3 y0 y1 y2 y3;obtain⟨y0,y1,y2,y3⟩:=Qb bx8;obtain⟨r0,r1,r2,r3⟩:=Qb br8;obtain⟨g0,g1,g2,g3⟩:=Qo br8;have hne1:¬w.heap.size+1=m+1:=by omega
        have hne2:¬m+1=w.heap.size+1:=by omega
        have hne3:¬w.heap.size=m:=by omega
        have hne4:¬m=w.heap.size:=by omega
        clear kq bq kA kB obE rsE rrE owE odE hinE k7 k8 k9 br8 br9 be7 be8 be9 bx7 bx8 c8 od8 ow7 D7 hb7 hb8 f7;go_wp2;refine bodyPost_ret (v:=.tuple #[Hp.v ⟨va,vcap,l,ra,rcap,zs,wa7,wc7,Qx g.ws X,da8,dc8,Qx g.ds X⟩,.slice ma mL mc]) ?_ rfl ⟨_,_,L0,rfl,cE,fE,mvE.base (by omega),fun q=>absurd q (by rw[HOK.out];simp),fun _=>HCP.out,beE,avE⟩;simp[results,Tryz.results9,go_sem,z0,z1,z2,z3,Hp.v]
theorem QgN (h:Hp)(w:World)(hf:Fit w h):
 Calls Cut.prog 9 #[h.v] w fun e w'=>∃(y:Hp) (v:Value) (ms:List Int),e=.returned (.tuple #[y.v,v])∧OkC y∧(∀W,Qf 27 w' W→Fit W y)∧Qa w' w.heap.size v ms∧(okP h.p=false→y.p=([],[],[],[])∧ms=[])∧(okP h.p=true→CoP h.p y.p ms)∧Below w.heap.size w w':=
 (Qa9 h w hf).mono fun _ _ ⟨y,v,ms,e,c,f,o,n,k,b,_⟩=>⟨y,v,ms,e,c,f,o,n,k,b⟩
end
end Go.Proofs.YtcpnkpogebjieaaGreat
