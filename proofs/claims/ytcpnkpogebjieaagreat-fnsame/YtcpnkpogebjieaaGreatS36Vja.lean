/- An ok heap that is collected is ok. No Go function is walked here. -/
import Derived.Test.YtcpnkpogebjieaaGreatS35Dta
open Go.Value renaming slice→QhR,int→QhX,string→QhY
open Nat renaming le_refl→QhS,le_trans→QhU
open Go.Obj renaming cells→QhT
open List renaming getElem?_eq_getElem→QhV,getElem?_map→QhZ,length_map→Qh1,length_filter_le→Qh2,length_append→Qh4,getElem?_cons_succ→Qh5
open Option renaming map_some→QhW
open Go.World renaming cell?_of_block→Qh0,setCell→Qh3
set_option maxHeartbeats 3200000
set_option maxRecDepth 100000
namespace Go.Proofs.YtcpnkpogebjieaaGreat
section
open Go.RowKit
theorem U1 {X:List Int}{x:Int}(h:0≤pos X x):X[(pos X x).toNat]? =some x:=by
 induction X with
 |nil=>simp[pos]at h
 |cons z l ih=>
  unfold pos at h⊢;by_cases hz:z=x
  ·simp[hz]
  ·simp only[hz,if_false]at h⊢;by_cases hp:pos l x<0
   ·simp[hp]at h
   ·simp only[hp,if_false];have h0:0≤pos l x:=by omega
    have e:(pos l x+1).toNat=(pos l x).toNat+1:=by omega
    rw[e,Qh5];exact ih h0
theorem QbN (X:List Int)(z:Int):-1≤wh X z∧wh X z<X.length:=by
 unfold wh;split
 ·omega
 ·exact YJ X z
theorem Qfv {ws:List (Int×Int)}{X:List Int}{p:Int×Int}(h:p∈Qx ws X):∃q∈ws,0≤pos X q.1∧0≤pos X q.2∧p=(pos X q.1,pos X q.2):=by
 unfold Qx at h;obtain⟨q,hq,rfl⟩:=List.mem_map.1 h;rw[List.mem_filter,Bool.and_eq_true,decide_eq_true_eq,decide_eq_true_eq]at hq;exact⟨q,hq.1,hq.2.1,hq.2.2,rfl⟩
theorem Qas (ws:List (Int×Int))(X:List Int):(Qx ws X).length≤ws.length:=by
 unfold Qx;rw[Qh1];exact Qh2 _ _
theorem OkC.collect {g:Hp}(c:OkC g){X:List Int}(hp:Qr g.os.length X){l:List Ob}(hl:l.map Ob.p=(pick g.os X).map (QI X))(oa:Option Addr)(oc:Nat)(ra:Option Addr)(rc:Nat)(wa:Option Addr)(wc':Nat)(da:Option Addr)(dc:Nat):OkC ⟨oa,oc,l,ra,rc,g.rs.map (wh X),wa,wc',Qx g.ws X,da,dc,Qx g.ds X⟩:=by
 have hll:l.length=X.length:=by
  have:=congrArg List.length hl;simpa[Ju]using this
 have hXn:=hp.len;have n60:=c.n60
 have hat:∀i (hi:i<l.length) (hx:i<X.length),∃hz:X[i].toNat<g.os.length,l[i].p=QI X g.os[X[i].toNat]:=fun i hi hx=>by
  have hr:=hp.rng X[i] (List.getElem_mem hx);have hz:X[i].toNat<g.os.length:=by omega
  refine⟨hz,?_⟩;have h1:(l.map Ob.p)[i]? =((pick g.os X).map (QI X))[i]? :=by rw[hl]
  rw[QhZ,QhZ,QhV hi,QhV (by rw[Ju];exact hx)]at h1;simp only[QhW,Option.some.injEq]at h1;rw[h1,VN (by rw[Ju];exact hx) hx hz]
 have hwt:∀(ws:List (Int×Int)),(∀p∈ws,Qn (g.os.map Ob.p) p=true)→∀p∈Qx ws X,Qn (l.map Ob.p) p=true:=fun ws hw p hpm=>by
  obtain⟨q,hq,h1,h2,rfl⟩:=Qfv hpm;have hw':=hw q hq;simp only[Qn,inB,Bool.and_eq_true,decide_eq_true_eq,Qh1]at hw'⊢;have b1:=YJ X q.1;have b2:=YJ X q.2;have hi:(pos X q.1).toNat<X.length:=by omega
  have hg:=U1 h1;rw[QhV hi]at hg;simp only[Option.some.injEq]at hg;obtain⟨hz,he⟩:=hat (pos X q.1).toNat (by omega) hi;refine⟨⟨⟨h1,by omega⟩,h2,by omega⟩,?_⟩;rw[QhZ,QhV (by omega),QhW,QhW,he];have h4:=hw'.2;have hq0:q.1.toNat<g.os.length:=by have:=hw'.1.1;omega
  rw[QhZ,QhV hq0,QhW,QhW]at h4;simp only[QI,Ob.p,Option.some.injEq]at h4⊢;simp only[hg];exact h4
 refine⟨by simp only;omega,by simpa using c.r8,?_,fun i hi=>?_,fun z hz=>?_,hwt g.ws c.wo,hwt g.ds c.dd⟩
 ·have:=Qas g.ws X;have:=Qas g.ds X;have:=c.w20;simp only;omega
 ·simp only at hi⊢;obtain⟨hz,he⟩:=hat i hi (by omega);rw[he];have h1:=c.ob _ hz;simp only[Qt,Ob.p,QI,Bool.and_eq_true,Qh1]at h1⊢;refine⟨?_,h1.2⟩;unfold Q2;rw[List.all_eq_true];intro y hy;obtain⟨x,_,rfl⟩:=List.mem_map.1 hy;have:=QbN X x;simp only[inB,Bool.and_eq_true,decide_eq_true_eq];omega
 ·simp only at hz⊢;obtain⟨x,_,rfl⟩:=List.mem_map.1 hz;have:=QbN X x;omega
structure Uf (k4:World) (m:Nat) (W:World) (l:List Ob) (vo:Value) (N:Nat) (vr:Value) (zs:List Int):Prop where
 bx:Blk W (m+1) [vo,vr,.slice none 0 0,.slice none 0 0] 27
 ob:Qw W (m+1) vo l
 rs:QN W (m+1) l
 lo:∀i (hi:i<l.length) q,l[i].rv.ownBlock=some q→q<N
 rr:Qa W N vr zs
 be:Below (m+1) k4 W
 hN:m+1≤N
 sz:N≤W.heap.size
theorem Uf.step {k4:World}{m:Nat}{W W':World}{l:List Ob}{vo:Value}{N:Nat}{vr:Value}{zs:List Int}(c:Uf k4 m W l vo N vr zs)(hb:Below W.heap.size W W'):Uf k4 m W' l vo N vr zs:=
 ⟨c.bx.step hb,c.ob.below hb (QhS _),c.rs.below hb (QhS _),c.lo,c.rr.below hb (QhS _),c.be.trans (hb.mono (QhU c.hN c.sz)),c.hN,QhU c.sz hb.size⟩
theorem Uf.next {k4:World}{m:Nat}{W W':World}{l:List Ob}{vo:Value}{N:Nat}{vr vr':Value}{zs zs':List Int}(c:Uf k4 m W l vo N vr zs)(hg:W.grownBy W' vr.ownBlock)(hr:Qa W' N vr' zs'):Uf k4 m (W'.setCell ⟨m+1,1,none⟩ vr') l vo N vr' zs'∧W'.cell? ⟨m+1,1,none⟩=some vr∧W'.frozen? ⟨m+1,1,none⟩=false∧Below (m+1) k4 W':=by
 have bx2:=c.bx.grown hg (Qs c.rr c.bx (by decide));have k3:Qf 27 W' (W'.setCell ⟨m+1,1,none⟩ vr'):=Qf.set bx2 1 _;have hb:=c.be.trans (QJ hg (QhU c.hN c.sz) (fun q e=>QhU c.hN (c.rr.lt q e).1));refine⟨⟨bx2.store 1 _,Qm (QO c.ob c.rr hg (by decide)) k3 (by decide),⟨fun i hi=>Qm (World.ownsRow.kept (c.rs.own i hi) hg ?_) k3 (by decide),c.rs.inc⟩,c.lo,Qm hr k3 (by decide),hb.setCell (QhS _) _,c.hN,?_⟩,bx2.cell 1,bx2.free 1,hb⟩
 ·cases q:l[i].rv.ownBlock with
  |none=>exact Or.inl rfl
  |some x=>
   refine Or.inr fun e=>?_;have h1:=c.lo i hi x q;have h2:=(c.rr.lt x e.symm).1;omega
 ·have:=hg.size;have:=c.sz;simp[Qh3];omega
theorem O5 {W:World}{m N:Nat}{l:List Ob}{va:Option Addr}{vcap:Nat}{ra:Option Addr}{rcap:Nat}{zs:List Int}{wa:Option Addr}{wcap:Nat}{ws:List (Int×Int)}{da:Option Addr}{dcap:Nat}{ds:List (Int×Int)}{B1 B2:Nat}
 (ob:Qw W (m+1) (.slice va l.length vcap) l)(rs:QN W (m+1) l)(rr:Qa W N (.slice ra zs.length rcap) zs)(ow:Qe W B1 (.slice wa ws.length wcap) ws)(od:Qe W B2 (.slice da ds.length dcap) ds):Qj W ⟨va,vcap,l,ra,rcap,zs,wa,wcap,ws,da,dcap,ds⟩:=by
 refine⟨?_,?_,?_,?_⟩
 ·obtain⟨a,cap,e,_,hs⟩:=ob.form;simp only[Value.slice.injEq]at e;obtain⟨rfl,_⟩:=e;exact hs (fun i hi=>rs.seg i hi)
 ·obtain⟨a,cap,e,hs,_⟩:=rr.form;simp only[Value.slice.injEq]at e;obtain⟨rfl,_⟩:=e;exact hs
 ·obtain⟨a,cap,e,hs,_⟩:=ow.form;simp only[Value.slice.injEq]at e;obtain⟨rfl,_⟩:=e;exact hs
 ·obtain⟨a,cap,e,hs,_⟩:=od.form;simp only[Value.slice.injEq]at e;obtain⟨rfl,_⟩:=e;exact hs
theorem QN.cap {w:World}{base:Nat}{l:List Ob}(h:QN w base l)(i:Nat)(hi:i<l.length):l[i].r.length≤l[i].rcap:=by
 obtain⟨a,cap,e,_,h1,_⟩:=(h.own i hi).form;simp only[Ob.rv,Value.slice.injEq]at e;omega
def Hp.nil:Hp:=⟨none,0,[],none,0,[],none,0,[],none,0,[]⟩
theorem Hp.nil_ok:OkC Hp.nil:=⟨by simp[Hp.nil],by simp[Hp.nil],by simp[Hp.nil],fun i hi=>by simp[Hp.nil]at hi,fun z hz=>by simp[Hp.nil]at hz,fun p hp=>by simp[Hp.nil]at hp,fun p hp=>by simp[Hp.nil]at hp⟩
theorem Hp.nil_in (w:World):Qj w Hp.nil:=⟨⟨fun hm=>by simp[Hp.nil]at hm,fun i hi=>by simp[Hp.nil]at hi⟩,fun hm=>by simp[Hp.nil]at hm,fun hm=>by simp[Hp.nil]at hm,fun hm=>by simp[Hp.nil]at hm⟩
theorem OkC.of_p {g h:Hp}(e:g.p=h.p)(c:OkC h):OkC g:=YZ (by rw[e];exact Yo c)
structure CoG (w k4:World) (m:Nat) (g:Hp) (xa:Option Addr) (X:List Int):Prop where
 hm:k4.heap.size=m+1
 bg:Blk k4 m [QhR g.oa g.os.length g.ocap,QhR g.ra g.rs.length g.rcap,QhR g.wa g.ws.length g.wcap,QhR g.da g.ds.length g.dcap] 27
 br:Blk k4 (w.heap.size+1) [QhR none 0 0,QhR none 0 0,QhR none 0 0,QhR none 0 0] 27
 be:Below w.heap.size w k4
 gi:Qj k4 g
 gk:OkC g
 kn:Qi k4 xa X
 pl:Qr g.os.length X
 sz:w.heap.size+1+1<k4.heap.size
def YO (os:List (Int×ByteArray×List Int))(s:List (Int×Int)×List (Int×Int)×List Int):List (Int×Int)×List (Int×Int)×List Int:=
 (QW s.1 (Ql s.1 s.2.2),s.2.1++Ql s.1 s.2.2,traceF os (s.2.1++Ql s.1 s.2.2) 61 0 ((Ql s.1 s.2.2).foldl (fun K p=>put K p.2) s.2.2))
def itS (os:List (Int×ByteArray×List Int)):Nat→List (Int×Int)×List (Int×Int)×List Int→List (Int×Int)×List (Int×Int)×List Int
 |0,s=>s
 |n+1,s=>YO os (itS os n s)
theorem QeP (h:Hp)(w:World)(hh:Qj w h)(c:OkC h)(hcap:∀(i:Nat) (hi:i<h.os.length),h.os[i].r.length≤h.os[i].rcap):
 Calls Cut.prog 34 #[h.v] w fun e w'=>∃(y:Hp) (v:Value) (X:List Int),e=.returned (.tuple #[y.v,v])∧y.os=h.os∧y.rs=h.rs∧OkC y∧Qj w' y∧Qa w' w.heap.size v X∧Qr h.os.length X∧Below w.heap.size w w'∧X=traceF (h.os.map Ob.p) y.ds 61 0 (putAll [] h.rs)∧∃(n:Nat) (K:List Int),itS (h.os.map Ob.p) n (h.ws,h.ds,traceF (h.os.map Ob.p) h.ds 61 0 (putAll [] h.rs))=(y.ws,y.ds,K)∧Ql y.ws K=[]:=by
 obtain⟨i0,hi,hz0,hz1,hz2⟩:=info_parts Jr;have hB0:Below w.heap.size w ((w.alloc (QhT #[QhR h.oa h.os.length h.ocap,QhR h.ra h.rs.length h.rcap,QhR h.wa h.ws.length h.wcap,QhR h.da h.ds.length h.dcap] 27)).alloc (QhT #[QhR none 0 0,QhR none 0 0,QhR none 0 0,QhR none 0 0] 27)):=((Below.refl _ _).alloc (QhS _) _).alloc (by simp) _;have hK0:=(Blk.new w [QhR h.oa h.os.length h.ocap,QhR h.ra h.rs.length h.rcap,QhR h.wa h.ws.length h.wcap,QhR h.da h.ds.length h.dcap] 27).alloc (QhT #[QhR none 0 0,QhR none 0 0,QhR none 0 0,QhR none 0 0] 27)
 have hR0:Blk ((w.alloc (QhT #[QhR h.oa h.os.length h.ocap,QhR h.ra h.rs.length h.rcap,QhR h.wa h.ws.length h.wcap,QhR h.da h.ds.length h.dcap] 27)).alloc (QhT #[QhR none 0 0,QhR none 0 0,QhR none 0 0,QhR none 0 0] 27)) (w.heap.size+1) [QhR none 0 0,QhR none 0 0,QhR none 0 0,QhR none 0 0] 27:=by
  have:=Blk.new (w.alloc (QhT #[QhR h.oa h.os.length h.ocap,QhR h.ra h.rs.length h.rcap,QhR h.wa h.ws.length h.wcap,QhR h.da h.ds.length h.dcap] 27)) [QhR none 0 0,QhR none 0 0,QhR none 0 0,QhR none 0 0] 27;rw[World.size_alloc]at this;exact this
 have htr:Tr h:=Y0 (Yo c) c.small hcap;have c1:=VD h _ (hh.below hB0 (QhS _)) c.small htr (fun z hz=>(c.ro z hz).2);go_enter (Cut.func_of Tryz.func34 rfl),Tryz.ntmps34;simp only[Hp.v]at c1⊢;go_wp2_with fail;refine c1.mono ?_;rintro e w1 ⟨v1,rfl,hk1,hp1,hb1⟩;have hB1:=hB0.trans (hb1.mono hB0.size)
 have T0:Z6 w h w1 v1 _ h.wa h.wcap h.ws h.da h.dcap h.ds:=⟨hK0.step hb1,hR0.step hb1,hB1,hh.below hB1 (QhS _),c,hk1.base hB0.size,hp1,by
  cases q:v1.ownBlock with
  |none=>exact QM.none _
  |some k=>exact hh.av (QhU hB0.size (hk1.lt k q).1),hh.av (QhS _),hh.av (by omega)⟩
 generalize hK1:traceF (h.os.map Ob.p) h.ds 61 0 (putAll [] h.rs)=K1 at T0;have HK1:Hid (traceF (h.os.map Ob.p) h.ds 61 0 (putAll [] h.rs)=K1):=hK1;clear hK1;clear c1 hB0 hK0 hR0 hk1 hp1 hb1 hB1 htr;go_wp2;go_loopw [4,5,6] (fun v _ _ wr=>∃(K:List Int) (wa:Option Addr) (wcap:Nat) (ws:List (Int×Int)) (da:Option Addr) (dcap:Nat) (ds:List (Int×Int)),Z6 w h wr v K wa wcap ws da dcap ds∧∃n,itS (h.os.map Ob.p) n (h.ws,h.ds,K1)=(ws,ds,K)) (fun _ _ _ wr=>(match wr.cell? ⟨w.heap.size,2,none⟩with|some (.slice _ n _)=>n|_=>0))
 case atStart=>exact⟨_,_,_,_,_,_,_,T0,0,rfl⟩
 case round=>
  obtain⟨K,wa,wcap,ws,da,dcap,ds,t,n,hn⟩:=hrel;have HN:Hid (itS (h.os.map Ob.p) n (h.ws,h.ds,K1)=(ws,ds,K)):=hn;clear hn;clear T0;obtain⟨x0,x1,x2,x3⟩:=Qb t.bh;obtain⟨xa,xcap,rfl,sx,-⟩:=t.kn.form;have hKl:=t.pl.len;have hn60:=c.n60;have c2:=QeQ {h with wa:=wa,wcap:=wcap,ws:=ws,da:=da,dcap:=dcap,ds:=ds} xa xcap K wr t.isIn.sw (by have:=t.ok.w20;simp only at this⊢;omega) sx (by unfold maxLen;omega);simp only[Hp.v]at c2;have hw20:=t.ok.w20;simp only at hw20;go_wp2_with fail;refine c2.mono ?_;rintro e w2 ⟨tv,rfl,ot,hb2⟩;obtain⟨ta,tcap,rfl,st,-⟩:=ot.form;have hwrs:=t.be.size;have t2:=t.step hb2;have hTL:(Ql ws K).length≤ws.length:=Qh2 _ _;have HMS:Hid ((match wr.cell? ⟨w.heap.size,2,none⟩with|some (.slice _ n _)=>n|_=>0)=ws.length):=by show _=_;rw[x2]
  clear c2 x0 x1 x2 x3 sx;obtain⟨x0,x1,x2,x3⟩:=Qb t2.bh;have HWT:Hid ((QW ws (Ql ws K)).length+(Ql ws K).length=ws.length):=Kb ws K;have HTM:Hid (∀p∈Ql ws K,p∈ws):=fun p hp=>(U6.1 hp).1;have HZT:Hid (∀p∈Ql ws K,p.2<(h.os.length:Int)):=fun p hp=>(JH (h:={h with wa:=wa,wcap:=wcap,ws:=ws,da:=da,dcap:=dcap,ds:=ds}) t.ok.wo p ((U6.1 hp).1)).2.2;generalize hTS:Ql ws K=ts at *;have HTS:Hid (Ql ws K=ts):=hTS;clear hTS;by_cases h0:ts.length=0
  ·have htr:Tr {h with wa:=wa,wcap:=wcap,ws:=ws,da:=da,dcap:=dcap,ds:=ds}:=t2.tr hcap;have hdr:Below w2.heap.size w2 w2.drew:=(Below.refl _ _).drew;have t2d:=t2.step hdr;have c3:=VD {h with wa:=wa,wcap:=wcap,ws:=ws,da:=da,dcap:=dcap,ds:=ds} w2.drew t2d.isIn t2d.ok.small htr (fun z hz=>(c.ro z hz).2);simp only[Hp.v]at c3;have HB5:Hid (∀w6,Below w2.drew.heap.size w2.drew w6→(fun(W':World)=>W'.cell? ⟨w.heap.size,0,none⟩=some (.slice h.oa h.os.length h.ocap)∧W'.cell? ⟨w.heap.size,1,none⟩=some (.slice h.ra h.rs.length h.rcap)∧W'.cell? ⟨w.heap.size,2,none⟩=some (.slice wa ws.length wcap)∧W'.cell? ⟨w.heap.size,3,none⟩=some (.slice da ds.length dcap)) w6∧Z6 w h w6 _ K wa wcap ws da dcap ds):=fun w6 hb6=>⟨Qb (t2d.step hb6).bh,t2d.step hb6⟩
   have HS7:Hid (∀w6:World,(fun(W':World)=>W'.cell? ⟨w.heap.size,0,none⟩=some (.slice h.oa h.os.length h.ocap)∧W'.cell? ⟨w.heap.size,1,none⟩=some (.slice h.ra h.rs.length h.rcap)∧W'.cell? ⟨w.heap.size,2,none⟩=some (.slice wa ws.length wcap)∧W'.cell? ⟨w.heap.size,3,none⟩=some (.slice da ds.length dcap)) w6→(fun(W':World)=>W'.cell? ⟨w.heap.size,0,none⟩=some (.slice h.oa h.os.length h.ocap)∧W'.cell? ⟨w.heap.size,1,none⟩=some (.slice h.ra h.rs.length h.rcap)∧W'.cell? ⟨w.heap.size,2,none⟩=some (.slice wa ws.length wcap)∧W'.cell? ⟨w.heap.size,3,none⟩=some (.slice da ds.length dcap)) ((((w6.setCell ⟨w.heap.size+1,0,none⟩ (.slice h.oa h.os.length h.ocap)).setCell ⟨w.heap.size+1,1,none⟩ (.slice h.ra h.rs.length h.rcap)).setCell ⟨w.heap.size+1,2,none⟩ (.slice wa ws.length wcap)).setCell ⟨w.heap.size+1,3,none⟩ (.slice da ds.length dcap))):=fun w6 hs=>by
    have sc:∀(p:Addr) (u:Value),p.block≠w.heap.size+1→w6.cell? p=some u→((((w6.setCell ⟨w.heap.size+1,0,none⟩ (.slice h.oa h.os.length h.ocap)).setCell ⟨w.heap.size+1,1,none⟩ (.slice h.ra h.rs.length h.rcap)).setCell ⟨w.heap.size+1,2,none⟩ (.slice wa ws.length wcap)).setCell ⟨w.heap.size+1,3,none⟩ (.slice da ds.length dcap)).cell? p=some u:=fun p u hp hc=>by
     rw[Qh0 (Below.heap_setCell _ _ _ _ hp),Qh0 (Below.heap_setCell _ _ _ _ hp),Qh0 (Below.heap_setCell _ _ _ _ hp),Qh0 (Below.heap_setCell _ _ _ _ hp)];exact hc
    have p1:w.heap.size≠w.heap.size+1:=by omega
    exact⟨sc _ _ p1 hs.1,sc _ _ p1 hs.2.1,sc _ _ p1 hs.2.2.1,sc _ _ p1 hs.2.2.2⟩
   have hlt2:=t2.be.size;clear t t2 st ot hb2 hdr;go_wp2_with fail;go_region_held3 (fun(W':World)=>W'.cell? ⟨w.heap.size,0,none⟩=some (.slice h.oa h.os.length h.ocap)∧W'.cell? ⟨w.heap.size,1,none⟩=some (.slice h.ra h.rs.length h.rcap)∧W'.cell? ⟨w.heap.size,2,none⟩=some (.slice wa ws.length wcap)∧W'.cell? ⟨w.heap.size,3,none⟩=some (.slice da ds.length dcap)) (first|(refine⟨?_,?_,?_,?_⟩<;>with_reducible assumption)|go_keep)
    (first
      |(go_at_call 58;refine c3.mono ?_;rintro e w6 ⟨v6,rfl,hk6,hp6,hb6⟩;obtain⟨⟨m0,m1,m2,m3⟩,t6⟩:=HB5.out w6 hb6;obtain⟨u0,u1,u2,u3⟩:=Qb t6.br;obtain⟨f0,f1,f2,f3⟩:=Qo t6.br;obtain⟨d0,d1,d2,d3⟩:=HS7.out w6 ⟨m0,m1,m2,m3⟩))
   all_goals
    obtain⟨kq,bq⟩:=QR t6.br (.slice h.oa h.os.length h.ocap) (.slice h.ra h.rs.length h.rcap) (.slice wa ws.length wcap) (.slice da ds.length dcap);obtain⟨z0,z1,z2,z3⟩:=Qb bq;have hbE:=ZS t6.be (C:=w.heap.size+1) (by omega) (.slice h.oa h.os.length h.ocap) (.slice h.ra h.rs.length h.rcap) (.slice wa ws.length wcap) (.slice da ds.length dcap);have hinE:=in4 t6.isIn t6.ar (.slice h.oa h.os.length h.ocap) (.slice h.ra h.rs.length h.rcap) (.slice wa ws.length wcap) (.slice da ds.length dcap);have hkE:Qa ((((w6.setCell ⟨w.heap.size+1,0,none⟩ (.slice h.oa h.os.length h.ocap)).setCell ⟨w.heap.size+1,1,none⟩ (.slice h.ra h.rs.length h.rcap)).setCell ⟨w.heap.size+1,2,none⟩ (.slice wa ws.length wcap)).setCell ⟨w.heap.size+1,3,none⟩ (.slice da ds.length dcap)) w.heap.size v6 _:=Qm (hk6.base (C:=w.heap.size) t2d.be.size) kq (by decide);have cE:=t6.ok;clear kq bq t6 c3 HB5 HS7 t2d;go_wp2;refine bodyPost_ret (v:=.tuple #[Hp.v {h with wa:=wa,wcap:=wcap,ws:=ws,da:=da,dcap:=dcap,ds:=ds},v6]) ?_ rfl ⟨{h with wa:=wa,wcap:=wcap,ws:=ws,da:=da,dcap:=dcap,ds:=ds},v6,_,rfl,rfl,rfl,cE,hinE,hkE,hp6,hbE,rfl,n,K,by rw[HK1.out];exact HN.out,by rw[HTS.out];exact List.eq_nil_of_length_eq_zero h0⟩;simp[results,Tryz.results34,go_sem,z0,z1,z2,z3,Hp.v]
  ·have hne:((ts.length:Int)==0)=false:=by rw[YB];exact decide_eq_false h0
   have c4:=QeR wa wcap ws ta tcap ts w2 t2.isIn.sw (by omega) st (by omega);clear t;go_wp2_with fail;refine c4.mono ?_;rintro e w3 ⟨nv,rfl,hn,hb3⟩;obtain⟨na,nc,rfl,-⟩:=hn.form;have hNL:(QW ws ts).length≤ws.length:=Qh2 _ _;have HNM:Hid (∀p∈QW ws ts,p∈ws):=fun p hp=>(List.mem_filter.1 hp).1;generalize hNS:QW ws ts=ns at *;have HNS:Hid (QW ws ts=ns):=hNS;clear hNS c4;have bh3:=t2.bh.step hb3;have t3:=t2.step hb3;have f2:=bh3.free 2;have f3:=bh3.free 3;clear x0 x1 x2 x3;obtain⟨x0,x1,x2,x3⟩:=Qb bh3;have hsz3:(w3.setCell ⟨w.heap.size,2,none⟩ (.slice na ns.length nc)).heap.size=w3.heap.size:=by simp[Qh3]
   have HSZ3:Hid ((w3.setCell ⟨w.heap.size,2,none⟩ (.slice na ns.length nc)).heap.size=w3.heap.size):=hsz3;have kS:Qf 27 w3 (w3.setCell ⟨w.heap.size,2,none⟩ (.slice na ns.length nc)):=Qf.set bh3 2 _;have hsd3:Qz (w3.setCell ⟨w.heap.size,2,none⟩ (.slice na ns.length nc)) da ds:=(t3.isIn.grown (Q1 w3 w.heap.size 2 (.slice na ns.length nc)) t3.ab).sd;have ot3:Qe (w3.setCell ⟨w.heap.size,2,none⟩ (.slice na ns.length nc)) wr.heap.size (.slice ta ts.length tcap) ts:=Qm (ot.below hb3 (QhS _)) kS (by decide);have bh3s:=bh3.store 2 (.slice na ns.length nc);have hlt3:=bh3.lt;have hne3:¬w.heap.size=w3.heap.size:=by omega
   have hA4:Below w3.heap.size (w3.setCell ⟨w.heap.size,2,none⟩ (.slice na ns.length nc)) ((w3.setCell ⟨w.heap.size,2,none⟩ (.slice na ns.length nc)).alloc (QhT #[] 40)):=(Below.refl _ _).alloc (by rw[hsz3];exact QhS _) _
   have hO4:((w3.setCell ⟨w.heap.size,2,none⟩ (.slice na ns.length nc)).alloc (QhT #[] 40)).ownsRow w3.heap.size 40 2 (.slice (some ⟨w3.heap.size,0,none⟩) 0 0) 0 []:=by
    have:=World.ownsRow_lit (e:=40) (size:=2) (base:=w3.heap.size) (w3.setCell ⟨w.heap.size,2,none⟩ (.slice na ns.length nc)) #[] 0 (by rw[hsz3];exact QhS _) (Nat.zero_le _) rfl;rw[hsz3]at this;exact this
   have hsrc1:=(hsd3.below hA4 (by rw[hsz3];exact QhS _)).src;have hsz4:w3.heap.size≤((w3.setCell ⟨w.heap.size,2,none⟩ (.slice na ns.length nc)).alloc (QhT #[] 40)).heap.size:=by rw[World.size_alloc,hsz3];omega
   clear hsz3;go_wp2_with (at_builtin;refine Kc _ rfl _ _ 25 rfl w3.heap.size 40 i0 _ 2 16 ((Cut.under_eq 25).trans Tryz.underlying25) hi hz0 hz1 hz2 rfl (by decide) _ 0 [] rfl hO4 da ds.length dcap (ds.flatMap wc) rfl (JY wc 2 (fun _=>rfl) _) hsrc1 (JU _) ?c1 ?c2 hsz4 ?_)
   case c1=>unfold maxLen;omega
   case c2=>omega
   intro v5 w5 hown5 hgr5 _;have hb5:=hA4.trans (QJ hgr5 hsz4 (fun q e=>(hO4.lt q e).1))
   have hst3:Qz (w3.setCell ⟨w.heap.size,2,none⟩ (.slice na ns.length nc)) ta ts:=by
    obtain⟨a,cap,q,hs,_⟩:=ot3.form;simp only[Value.slice.injEq]at q;rw[q.1];exact hs
   have hsrc2:=(hst3.below hb5 (Nat.le_of_eq HSZ3.out)).src;have hsz5:=hb5.size;rw[HSZ3.out]at hsz5;have hc5:=(hb5.cell (p:=⟨w.heap.size,3,none⟩) hlt3).trans (bh3s.cell 3);have hf5:=(hb5.frozen (p:=⟨w.heap.size,3,none⟩) hlt3).trans (bh3s.free 3);clear hO4 hgr5 hsrc1;go_wp2_with (at_builtin;refine Kc _ rfl _ _ 25 rfl w3.heap.size 40 i0 _ 2 16 ((Cut.under_eq 25).trans Tryz.underlying25) hi hz0 hz1 hz2 rfl (by decide) _ _ _ rfl hown5 ta ts.length tcap (ts.flatMap wc) rfl (JY wc 2 (fun _=>rfl) _) hsrc2 (JU _) ?c1 ?c2 hsz5 ?_)
   case c1=>unfold maxLen;omega
   case c2=>omega
   intro v6 w6 hown6 hgr6 _;have hb6:=hb5.trans (QJ hgr6 hsz5 (fun q e=>(hown5.lt q e).1))
   have he6:Qe w6 w3.heap.size v6 (ds++ts):=by
    unfold Qe;rw[Qh4,List.flatMap_append];simpa using hown6
   obtain⟨ea,ec,rfl,-⟩:=he6.form
   obtain⟨t7,k7⟩:=t2.told hb3 hn hb6 (he6.base hb3.size) HNM.out (fun p hp=>by
    rcases List.mem_append.1 hp with q|q
    ·exact Or.inr q
    ·exact Or.inl (HTM.out p q)) (by have:=HWT.out;rw[Qh4];omega)
   have hc6:=(hb6.cell (p:=⟨w.heap.size,3,none⟩) hlt3).trans (bh3s.cell 3);have hf6:=(hb6.frozen (p:=⟨w.heap.size,3,none⟩) hlt3).trans (bh3s.free 3);simp only[List.set_cons_succ,List.set_cons_zero,Qh5,List.getElem?_cons_zero]at hc6;have ot7:Qe (w6.setCell ⟨w.heap.size,3,none⟩ (.slice ea (ds++ts).length ec)) wr.heap.size (.slice ta ts.length tcap) ts:=Qm ot k7 (by decide);have HEL:Hid ((ds++ts).length=ds.length+ts.length):=Qh4;generalize hES:ds++ts=es at *;have HES:Hid (ds++ts=es):=hES;clear hES hown5 hown6 hgr6 hsrc2 hb5 hb6 hc5 hf5 hA4 hsd3 ot3 kS bh3s hst3 he6 t3 t2 bh3 ot st hn hb3 x0 x1 x2 x3 f2 f3;go_wp2;go_loopw [4,6] (fun v i wq=>∃(j:Nat) (K':List Int),j≤ts.length∧i=.int .i64 j∧Z6 w h wq v K' na nc ns ea ec es∧Qe wq w.heap.size (.slice ta ts.length tcap) ts∧(ts.take j).foldl (fun K p=>put K p.2) K=K') (fun _ i _=>ts.length-(intOf i).toNat)
   case atStart=>exact⟨0,K,Nat.zero_le _,rfl,t7,Qe.base ot7 hwrs,rfl⟩
   case round=>
    obtain⟨j,K',hj,rfl,t8,ot8,hfk⟩:=hrel;have HFK:Hid ((ts.take j).foldl (fun K p=>put K p.2) K=K'):=hfk;clear hfk;clear t7 ot7 k7 hc6 hf6;have hKl':=t8.pl.len;obtain⟨xa',xcap',rfl,-⟩:=t8.kn.form;by_cases hjt:j<ts.length
    ·obtain⟨a9,cap9,q9,s9,-⟩:=ot8.form;simp only[Value.slice.injEq]at q9;obtain⟨q9a,-⟩:=q9;rw[←q9a]at s9;obtain⟨b5,o5,rfl,hb5,e1,e2⟩:=s9.get hjt;have hz:=HZT.out ts[j] (List.getElem_mem hjt);have hj1:(j:Int)<(ts.length:Int):=by omega
     have c5:=K7 w.heap.size _ K' ts[j].2 wr t8.kn t8.be.size (by omega)
     have HFK2:Hid ((ts.take (j+1)).foldl (fun K p=>put K p.2) K=put K' ts[j].2):=by
      show _=_;rw[List.take_succ_eq_append_getElem hjt,List.foldl_append,HFK.out];rfl
     clear q9a s9 e1;go_wp2_with fail;refine c5.mono ?_;rintro e w9 ⟨v9,rfl,hk9,hg9,hat9⟩;have t9:=t8.grow hg9 hk9 (t8.pl.put hz) hat9;have ot9:Qe w9 w.heap.size _ ts:=QO ot8 t8.kn hg9 (by decide);clear c5 hk9 hg9 hat9 e2 t8 ot8;go_wp2;go_roundw
     case rel=>exact⟨j+1,_,by omega,by go_num,t9,ot9,HFK2.out⟩
     case measure=>simp[intOf];omega
    ·have HST:Hid (itS (h.os.map Ob.p) (n+1) (h.ws,h.ds,K1)=(ns,es,traceF (h.os.map Ob.p) es 61 0 K')):=by
      show _=_;have e1:ts.take j=ts:=List.take_of_length_le (by omega);have e2:=HFK.out;rw[e1]at e2;unfold itS;rw[HN.out];unfold YO;dsimp only;rw[HTS.out,HNS.out,HES.out,e2]
     have c6:=Qae {h with wa:=na,wcap:=nc,ws:=ns,da:=ea,dcap:=ec,ds:=es} w.heap.size 61 _ K' wr t8.isIn t8.ok.small (t8.tr hcap) t8.kn t8.be.size t8.av t8.pl (by simp only;omega);simp only[Hp.v]at c6;obtain⟨x0,x1,x2,x3⟩:=Qb t8.bh;go_wp2_with fail;refine c6.mono ?_;rintro e w9 ⟨v9,rfl,hk9,hp9,hg9,hat9⟩;have t9:=t8.grow hg9 hk9 hp9 hat9;have x2':=(Qb t9.bh).2.2.1
     have HLT:Hid (ns.length<ws.length):=by
      show _<_;have:=HWT.out;omega
     have HM2:Hid ((match w9.cell? ⟨w.heap.size,2,none⟩with|some (.slice _ n _)=>n|_=>0)=ns.length):=by show _=_;rw[x2']
     clear c6 hk9 hp9 hg9 hat9 t8 ot8 x0 x1 x2 x3 x2';go_wp2;go_roundw
     case rel=>exact⟨_,_,_,_,_,_,_,t9,n+1,HST.out⟩
     case measure=>rw[HM2.out,HMS.out];exact HLT.out
theorem UK {W:World}{base e size n g l cap:Nat}{a:Option Addr}{xs:List Value}(h:W.ownsRow base e size (.slice a l cap) n xs)(hb:g<base):AvI a l (some g):=fun _ x hx q=>by
 subst hx;have:=(h.lt x.block rfl).1;simp only[Option.some.injEq]at q;omega
structure Yy (mq:Value) (ms:List Int) (k4:World) (m:Nat) (W:World) (l:List Ob) (vo:Value) (ps:List (Int×ByteArray×List Int)):Prop where
 mp:l.map Ob.p=ps
 bx:Blk W (m+1) [vo,.slice none 0 0,.slice none 0 0,.slice none 0 0] 27
 ob:Qw W (m+1) vo l
 rs:QN W (m+1) l
 be:Below (m+1) k4 W
 mv:Qa W (m+1) mq ms
theorem Yy.step {mq:Value}{ms:List Int}{k4:World}{m:Nat}{W W':World}{l:List Ob}{vo:Value}{ps:List (Int×ByteArray×List Int)}(c:Yy mq ms k4 m W l vo ps)(hb:Below W.heap.size W W'):Yy mq ms k4 m W' l vo ps:=
 ⟨c.mp,c.bx.step hb,c.ob.below hb (QhS _),c.rs.below hb (QhS _),c.be.trans (hb.mono (QhU (Nat.le_of_lt c.bx.lt) (QhS _))),c.mv.below hb (QhS _)⟩
structure JX (mq:Value) (ms:List Int) (k4:World) (m:Nat) (W:World) (l:List Ob) (vo:Value) (ps:List (Int×ByteArray×List Int)) (M mo:Nat) (o:Ob) (X:List Int) (a:Option Addr) (cc k:Nat):Prop where
 pc:Yy mq ms k4 m W l vo ps
 bo:Blk W mo [QhX .i64 o.k,QhY o.t,QhR a o.r.length cc] 37
 ro:Qa W M (.slice a o.r.length cc) (Jn (wh X) o.r k)
 lo:∀i (hi:i<l.length) q,l[i].rv.ownBlock=some q→q<M
 hM:m+1≤M
 ml:∀q,mq.ownBlock=some q→q<M
theorem JX.step {mq:Value}{ms:List Int}{k4:World}{m:Nat}{W W':World}{l:List Ob}{vo:Value}{ps:List (Int×ByteArray×List Int)}{M mo:Nat}{o:Ob}{X:List Int}{a:Option Addr}{cc k:Nat}(c:JX mq ms k4 m W l vo ps M mo o X a cc k)(hb:Below W.heap.size W W'):JX mq ms k4 m W' l vo ps M mo o X a cc k:=
 ⟨c.pc.step hb,c.bo.step hb,c.ro.below hb (QhS _),c.lo,c.hM,c.ml⟩
theorem JX.set {mq:Value}{ms:List Int}{k4:World}{m:Nat}{W:World}{l:List Ob}{vo:Value}{ps:List (Int×ByteArray×List Int)}{M mo:Nat}{o:Ob}{X:List Int}{g cc k:Nat}(c:JX mq ms k4 m W l vo ps M mo o X (some ⟨g,0,none⟩) cc k)(hk:k<o.r.length):JX mq ms k4 m (W.setCell ⟨g,k,none⟩ (.int .i64 (wh X o.r[k]))) l vo ps M mo o X (some ⟨g,0,none⟩) cc (k+1):=by
 have hg:M≤g:=(c.ro.lt g rfl).1;have hM:=c.hM;have n1:m+1≠g:=fun q=>Qs c.ro c.pc.bx (by decide) (by rw[q];rfl);have n2:mo≠g:=fun q=>Qs c.ro c.bo (by decide) (by rw[q];rfl)
 have n3:vo.ownBlock≠some g:=fun q=>by
  rcases UB c.pc.ob c.ro (by decide)with e|e
  ·rw[e]at q;cases q
  ·exact e q
 refine⟨⟨c.pc.mp,c.pc.bx.other _ _ n1,ownsRow_setCell_other c.pc.ob n3 _,⟨fun i hi=>ownsRow_setCell_other (c.pc.rs.own i hi) (fun q=>?_) _,c.pc.rs.inc⟩,c.pc.be.setCell (by dsimp only;omega) _,ownsRow_setCell_other c.pc.mv (fun q=>by have:=c.ml g q;omega) _⟩,c.bo.other _ _ n2,?_,c.lo,c.hM,c.ml⟩
 ·have:=c.lo i hi g q;omega
 ·have:=c.ro.set (UW _ _ _ (Nat.le_of_lt hk)).symm (k:=k) (wh X o.r[k]);rw[Pg _ _ _ hk]at this;exact this
theorem JX.next {mq:Value}{ms:List Int}{k4:World}{m:Nat}{W w3:World}{l:List Ob}{va:Option Addr}{vcap:Nat}{ps:List (Int×ByteArray×List Int)}{M mo:Nat}{o:Ob}{X:List Int}{a:Option Addr}{cc:Nat}(c:JX mq ms k4 m W l (.slice va l.length vcap) ps M mo o X a cc o.r.length)
 (q cap:Nat)(hown:w3.ownsRow (m+1) 37 3 (.slice (some ⟨q,0,none⟩) (l.length+1) cap) (l.length+1) (l.flatMap Ob.cs++ [QhX .i64 o.k,QhY o.t,QhR a o.r.length cc]))(hg:(W.alloc (QhT #[QhX .i64 o.k,QhY o.t,QhR a o.r.length cc] 37)).grownBy w3 (QhR va l.length vcap).ownBlock):
 Yy mq ms k4 m (w3.setCell ⟨m+1,0,none⟩ (.slice (some ⟨q,0,none⟩) (l.length+1) cap)) (l++ [⟨o.k,o.t,a,cc,o.r.map (wh X)⟩]) (.slice (some ⟨q,0,none⟩) (l.length+1) cap) (ps++ [QI X o]):=by
 have hA:Below W.heap.size W (W.alloc (QhT #[QhX .i64 o.k,QhY o.t,QhR a o.r.length cc] 37)):=QC _ _;have cA:=c.step hA;have hro:=cA.ro;rw[Pe]at hro;have hrv:(⟨o.k,o.t,a,cc,o.r.map (wh X)⟩:Ob).rv=.slice a o.r.length cc:=by simp[Ob.rv]
 have bx3:=cA.pc.bx.grown hg (Qs cA.pc.ob cA.pc.bx (by decide));have hown':Qw w3 (m+1) (.slice (some ⟨q,0,none⟩) (l.length+1) cap) (l++ [⟨o.k,o.t,a,cc,o.r.map (wh X)⟩]):=by unfold Qw;simpa[Ob.cs]using hown
 have rs3:=cA.pc.rs.grown cA.pc.ob (by decide) hg;have ro3:Qa w3 M (.slice a o.r.length cc) (o.r.map (wh X)):=QO hro cA.pc.ob hg (by decide);have k3:Qf 27 w3 (w3.setCell ⟨m+1,0,none⟩ (.slice (some ⟨q,0,none⟩) (l.length+1) cap)):=Qf.set bx3 0 _;have hs:m+1≤(W.alloc (QhT #[QhX .i64 o.k,QhY o.t,QhR a o.r.length cc] 37)).heap.size:=Nat.le_of_lt cA.pc.bx.lt;refine⟨by rw[List.map_append,c.pc.mp];rfl,bx3.store 0 _,Qm hown' k3 (by decide),?_,(cA.pc.be.trans (QJ hg hs (fun k e=>(cA.pc.ob.lt k e).1))).setCell (QhS _) _,Qm (QO cA.pc.mv cA.pc.ob hg (by decide)) k3 (by decide)⟩;refine(rs3.snoc _ (by rw[hrv];exact ro3.base c.hM) fun i hi x y hx hy=>?_).keep k3;have h1:=c.lo i hi x hx;rw[hrv]at hy;have h2:=(ro3.lt y hy).1;omega
structure J6 (mq:Value) (ms:List Int) (k4:World) (m:Nat) (W:World) (l:List Ob) (vo:Value) (N:Nat) (vr:Value) (zs:List Int):Prop where
 bx:Blk W (m+1) [vo,vr,.slice none 0 0,.slice none 0 0] 27
 ob:Qw W (m+1) vo l
 rs:QN W (m+1) l
 lo:∀i (hi:i<l.length) q,l[i].rv.ownBlock=some q→q<N
 rr:Qa W N vr zs
 be:Below (m+1) k4 W
 hN:m+1≤N
 sz:N≤W.heap.size
 mv:Qa W (m+1) mq ms
 ml:∀q,mq.ownBlock=some q→q<N
theorem J6.step {mq:Value}{ms:List Int}{k4:World}{m:Nat}{W W':World}{l:List Ob}{vo:Value}{N:Nat}{vr:Value}{zs:List Int}(c:J6 mq ms k4 m W l vo N vr zs)(hb:Below W.heap.size W W'):J6 mq ms k4 m W' l vo N vr zs:=
 ⟨c.bx.step hb,c.ob.below hb (QhS _),c.rs.below hb (QhS _),c.lo,c.rr.below hb (QhS _),c.be.trans (hb.mono (QhU c.hN c.sz)),c.hN,QhU c.sz hb.size,c.mv.below hb (QhS _),c.ml⟩
theorem J6.next {mq:Value}{ms:List Int}{k4:World}{m:Nat}{W W':World}{l:List Ob}{vo:Value}{N:Nat}{vr vr':Value}{zs zs':List Int}(c:J6 mq ms k4 m W l vo N vr zs)(hg:W.grownBy W' vr.ownBlock)(hr:Qa W' N vr' zs'):J6 mq ms k4 m (W'.setCell ⟨m+1,1,none⟩ vr') l vo N vr' zs'∧W'.cell? ⟨m+1,1,none⟩=some vr∧W'.frozen? ⟨m+1,1,none⟩=false∧Below (m+1) k4 W':=by
 have bx2:=c.bx.grown hg (Qs c.rr c.bx (by decide));have k3:Qf 27 W' (W'.setCell ⟨m+1,1,none⟩ vr'):=Qf.set bx2 1 _;have hb:=c.be.trans (QJ hg (QhU c.hN c.sz) (fun q e=>QhU c.hN (c.rr.lt q e).1));refine⟨⟨bx2.store 1 _,Qm (QO c.ob c.rr hg (by decide)) k3 (by decide),⟨fun i hi=>Qm (World.ownsRow.kept (c.rs.own i hi) hg ?_) k3 (by decide),c.rs.inc⟩,c.lo,Qm hr k3 (by decide),hb.setCell (QhS _) _,c.hN,?_,Qm (World.ownsRow.kept c.mv hg ?_) k3 (by decide),c.ml⟩,bx2.cell 1,bx2.free 1,hb⟩
 ·cases q:l[i].rv.ownBlock with
  |none=>exact Or.inl rfl
  |some x=>
   refine Or.inr fun e=>?_;have h1:=c.lo i hi x q;have h2:=(c.rr.lt x e.symm).1;omega
 ·have:=hg.size;have:=c.sz;simp[Qh3];omega
 ·cases q:mq.ownBlock with
  |none=>exact Or.inl rfl
  |some x=>
   refine Or.inr fun e=>?_;have h1:=c.ml x q;have h2:=(c.rr.lt x e.symm).1;omega
theorem QhK (X:List Int)(k:Nat):whs X (k+1)=whs X k++ [pos X k]:=by
 unfold whs;rw[List.range_succ,List.map_append];rfl
end
end Go.Proofs.YtcpnkpogebjieaaGreat
