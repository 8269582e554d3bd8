/- The specification's own collecting: telling. -/
import Derived.Test.YtcpnkpogebjieaaGreatG34Dq
import Derived.Test.YtcpnkpogebjieaaGreatG28Dd
open Go.Value renaming slice→Qhp,int→Qhs,string→Qht
open Nat renaming le_refl→Qhq,le_trans→Qhr
open List renaming getElem?_eq_getElem→Qhu,getElem?_map→Qhw,length_map→Qhx
open Option renaming map_some→Qhv
namespace Go.Proofs.YtcpnkpogebjieaaGreat
section
open Go.RowKit
theorem UU {ws:List (Int×Int)}{X:List Int}{p:Int×Int}:p∈Qj ws X↔p∈ws∧(decide (0≤pos X p.1)&&decide (pos X p.2<0))=true:=by
 unfold Qj;rw[List.mem_filter]
theorem Qdv (f:Int×Int→Bool)(l:List (Int×Int)):(l.filter fun p=>!f p).length+(l.filter f).length=l.length:=by
 induction l with
 |nil=>rfl
 |cons a l ih=>
  simp only[List.filter_cons]
  cases f a<;>simp<;>omega
theorem UX (ws:List (Int×Int))(X:List Int):(QP ws (Qj ws X)).length+(Qj ws X).length=ws.length:=by
 have h1:QP ws (Qj ws X)=ws.filter fun p=>!(decide (0≤pos X p.1)&&decide (pos X p.2<0)):=by
  unfold QP
  refine List.filter_congr fun p hp=>?_
  congr 1
  rw[Bool.eq_iff_iff,decide_eq_true_eq,UU]
  exact⟨fun h=>h.2,fun h=>⟨hp,h⟩⟩
 rw[h1]
 exact Qdv (fun p:Int×Int=>decide (0≤pos X p.1)&&decide (pos X p.2<0)) ws
theorem OkC.tell {h:Hp}(c:OkC h){ws ds:List (Int×Int)}(h1:∀p∈ws,p∈h.ws)(h2:∀p∈ds,p∈h.ws∨p∈h.ds)(h3:ws.length+ds.length≤h.ws.length+h.ds.length)(wa:Option Addr)(wcap:Nat)(da:Option Addr)(dcap:Nat):OkC {h with wa:=wa,wcap:=wcap,ws:=ws,da:=da,dcap:=dcap,ds:=ds}:=
 ⟨c.n60,c.r8,by have:=c.w20;simp only;omega,c.ob,c.ro,fun p hp=>c.wo p (h1 p hp),fun p hp=>(h2 p hp).elim (c.wo p) (c.dd p)⟩
theorem Y4 {a:Option Addr}{n cap m:Nat}{r:Option Nat}(h:∀k,(Qhp a n cap).ownBlock=some k→m≤k)(hr:∀k,r=some k→k<m):AvI a n r:=fun _ x hx e=>by
 subst hx
 have h1:=h x.block rfl
 have h2:=hr x.block e.symm
 omega
structure ZZ (w:World) (h:Hp) (W:World) (v:Value) (K:List Int) (wa:Option Addr) (wcap:Nat) (ws:List (Int×Int)) (da:Option Addr) (dcap:Nat) (ds:List (Int×Int)):Prop where
 bh:Blk W w.heap.size [Qhp h.oa h.os.length h.ocap,Qhp h.ra h.rs.length h.rcap,Qhp wa ws.length wcap,Qhp da ds.length dcap] 27
 br:Blk W (w.heap.size+1) [Qhp none 0 0,Qhp none 0 0,Qhp none 0 0,Qhp none 0 0] 27
 be:Below w.heap.size w W
 isIn:Qg W {h with wa:=wa,wcap:=wcap,ws:=ws,da:=da,dcap:=dcap,ds:=ds}
 ok:OkC {h with wa:=wa,wcap:=wcap,ws:=ws,da:=da,dcap:=dcap,ds:=ds}
 kn:Qa W w.heap.size v K
 pl:Qq h.os.length K
 av:Zg {h with wa:=wa,wcap:=wcap,ws:=ws,da:=da,dcap:=dcap,ds:=ds} v.ownBlock
 ab:Zg {h with wa:=wa,wcap:=wcap,ws:=ws,da:=da,dcap:=dcap,ds:=ds} (some w.heap.size)
 ar:Zg {h with wa:=wa,wcap:=wcap,ws:=ws,da:=da,dcap:=dcap,ds:=ds} (some (w.heap.size+1))
theorem ZZ.step {w:World}{h:Hp}{W W':World}{v:Value}{K:List Int}{wa:Option Addr}{wcap:Nat}{ws:List (Int×Int)}{da:Option Addr}{dcap:Nat}{ds:List (Int×Int)}(t:ZZ w h W v K wa wcap ws da dcap ds)(hb:Below W.heap.size W W'):ZZ w h W' v K wa wcap ws da dcap ds:=
 ⟨t.bh.step hb,t.br.step hb,t.be.trans (hb.mono t.be.size),t.isIn.below hb (Qhq _),t.ok,t.kn.below hb (Qhq _),t.pl,t.av,t.ab,t.ar⟩
theorem ZZ.grow {w:World}{h:Hp}{W W':World}{v v':Value}{K K':List Int}{wa:Option Addr}{wcap:Nat}{ws:List (Int×Int)}{da:Option Addr}{dcap:Nat}{ds:List (Int×Int)}(t:ZZ w h W v K wa wcap ws da dcap ds)(hg:W.grownBy W' v.ownBlock)(hk:Qa W' w.heap.size v' K')(hp:Qq h.os.length K')(hat:v'.ownBlock=v.ownBlock∨∃g,v'.ownBlock=some g∧W.heap.size≤g):ZZ w h W' v' K' wa wcap ws da dcap ds:=by
 refine⟨t.bh.grown hg (Qr t.kn t.bh (by decide)),t.br.grown hg (Qr t.kn t.br (by decide)),t.be.trans (QL hg t.be.size (fun k e=>(t.kn.lt k e).1)),t.isIn.grown hg t.av,t.ok,hk,hp,?_,t.ab,t.ar⟩
 rcases hat with e|⟨g,e,hg'⟩
 ·rw[e];exact t.av
 ·rw[e];exact t.isIn.av hg'
theorem ZZ.fit {w:World}{h:Hp}{W:World}{v:Value}{K:List Int}{wa:Option Addr}{wcap:Nat}{ws:List (Int×Int)}{da:Option Addr}{dcap:Nat}{ds:List (Int×Int)}(t:ZZ w h W v K wa wcap ws da dcap ds)(hcap:∀(i:Nat) (hi:i<h.os.length),h.os[i].r.length≤h.os[i].rcap):Fit W {h with wa:=wa,wcap:=wcap,ws:=ws,da:=da,dcap:=dcap,ds:=ds}:=t.ok.fit t.isIn hcap
theorem ZZ.tr {w:World}{h:Hp}{W:World}{v:Value}{K:List Int}{wa:Option Addr}{wcap:Nat}{ws:List (Int×Int)}{da:Option Addr}{dcap:Nat}{ds:List (Int×Int)}(t:ZZ w h W v K wa wcap ws da dcap ds)(hcap:∀(i:Nat) (hi:i<h.os.length),h.os[i].r.length≤h.os[i].rcap):Tr {h with wa:=wa,wcap:=wcap,ws:=ws,da:=da,dcap:=dcap,ds:=ds}:=UM (YA t.ok) t.ok.small hcap
theorem ZZ.told {w:World}{h:Hp}{W w3 w6:World}{v:Value}{K:List Int}{wa:Option Addr}{wcap:Nat}{ws:List (Int×Int)}{da:Option Addr}{dcap:Nat}{ds:List (Int×Int)}(t:ZZ w h W v K wa wcap ws da dcap ds){na ea:Option Addr}{nc ec:Nat}{ns es:List (Int×Int)}
 (hb3:Below W.heap.size W w3)(hn:Qe w3 W.heap.size (.slice na ns.length nc) ns)(hb6:Below w3.heap.size (w3.setCell ⟨w.heap.size,2,none⟩ (.slice na ns.length nc)) w6)(he:Qe w6 W.heap.size (.slice ea es.length ec) es)
 (h1:∀p∈ns,p∈ws)(h2:∀p∈es,p∈ws∨p∈ds)(h3:ns.length+es.length≤ws.length+ds.length):
 ZZ w h (w6.setCell ⟨w.heap.size,3,none⟩ (.slice ea es.length ec)) v K na nc ns ea ec es∧Qh 27 W (w6.setCell ⟨w.heap.size,3,none⟩ (.slice ea es.length ec)):=by
 have s3:(w3.setCell ⟨w.heap.size,2,none⟩ (.slice na ns.length nc)).heap.size=w3.heap.size:=by simp[World.setCell]
 have bh3:=t.bh.step hb3
 have br3:=t.br.step hb3
 have bh3s:=bh3.store 2 (.slice na ns.length nc)
 have br3s:=br3.other ⟨w.heap.size,2,none⟩ (.slice na ns.length nc) (by dsimp only;omega)
 have hb6':Below (w3.setCell ⟨w.heap.size,2,none⟩ (.slice na ns.length nc)).heap.size (w3.setCell ⟨w.heap.size,2,none⟩ (.slice na ns.length nc)) w6:=by rw[s3];exact hb6
 have bh6:=bh3s.step hb6'
 have br6:=br3s.step hb6'
 have k1:Qh 27 W w3:=Qh.below _ hb3 (Qhq _)
 have k2:Qh 27 w3 (w3.setCell ⟨w.heap.size,2,none⟩ (.slice na ns.length nc)):=Qh.set bh3 2 _
 have k3:Qh 27 (w3.setCell ⟨w.heap.size,2,none⟩ (.slice na ns.length nc)) w6:=Qh.below _ hb6' (Qhq _)
 have k4:Qh 27 w6 (w6.setCell ⟨w.heap.size,3,none⟩ (.slice ea es.length ec)):=Qh.set bh6 3 _
 have kk:=((k1.trans k2).trans k3).trans k4
 have hWs:=t.be.size
 have hlt:=t.br.lt
 have i6:=((t.isIn.below hb3 (Qhq _)).grown (QX w3 w.heap.size 2 (.slice na ns.length nc)) t.ab).below hb6' (Qhq _)
 have i7:=i6.grown (QX w6 w.heap.size 3 (.slice ea es.length ec)) t.ab
 have hn7:Qe (w6.setCell ⟨w.heap.size,3,none⟩ (.slice ea es.length ec)) W.heap.size (.slice na ns.length nc) ns:=Qm hn ((k2.trans k3).trans k4) (by decide)
 have he7:Qe (w6.setCell ⟨w.heap.size,3,none⟩ (.slice ea es.length ec)) W.heap.size (.slice ea es.length ec) es:=Qm he k4 (by decide)
 have av1:∀(r:Option Nat),(∀k,r=some k→k<W.heap.size)→AvI na ns.length r∧AvI ea es.length r:=fun r hr=>⟨Y4 (cap:=nc) (fun k q=>(hn.lt k q).1) hr,Y4 (cap:=ec) (fun k q=>(he.lt k q).1) hr⟩
 obtain⟨p1,p2⟩:=av1 v.ownBlock (fun k q=>(t.kn.lt k q).2)
 obtain⟨p3,p4⟩:=av1 (some w.heap.size) (fun k q=>by simp at q;omega)
 obtain⟨p5,p6⟩:=av1 (some (w.heap.size+1)) (fun k q=>by simp at q;omega)
 refine⟨⟨bh6.store 3 _,br6.other _ _ (by dsimp only;omega),?_,⟨i7.so,i7.sr,?_,?_⟩,t.ok.tell h1 h2 h3 na nc ea ec,Qm t.kn kk (by decide),t.pl,⟨t.av.ao,t.av.aoo,t.av.ar,p1,p2⟩,⟨t.ab.ao,t.ab.aoo,t.ab.ar,p3,p4⟩,⟨t.ar.ao,t.ar.aoo,t.ar.ar,p5,p6⟩⟩,kk⟩
 ·exact(((t.be.trans (hb3.mono hWs)).setCell (Qhq _) _).trans (hb6'.mono (by rw[s3];exact Qhr hWs hb3.size))).setCell (Qhq _) _
 ·obtain⟨a,cap,e,hs,_⟩:=hn7.form
  simp only[Value.slice.injEq]at e
  rw[e.1];exact hs
 ·obtain⟨a,cap,e,hs,_⟩:=he7.form
  simp only[Value.slice.injEq]at e
  obtain⟨rfl,_⟩:=e
  exact hs
theorem in4 {W:World}{B:Nat}{y:Hp}(hh:Qg W y)(hav:Zg y (some B))(v0 v1 v2 v3:Value):Qg ((((W.setCell ⟨B,0,none⟩ v0).setCell ⟨B,1,none⟩ v1).setCell ⟨B,2,none⟩ v2).setCell ⟨B,3,none⟩ v3) y:=
 (((hh.grown (QX W B 0 v0) hav).grown (QX _ B 1 v1) hav).grown (QX _ B 2 v2) hav).grown (QX _ B 3 v3) hav
structure Ur (k4:World) (m:Nat) (W:World) (l:List Ob) (vo:Value) (ps:List (Int×ByteArray×List Int)):Prop where
 mp:l.map Ob.p=ps
 bx:Blk W (m+1) [vo,.slice none 0 0,.slice none 0 0,.slice none 0 0] 27
 ob:Qu W (m+1) vo l
 rs:QJ W (m+1) l
 be:Below (m+1) k4 W
theorem Ur.step {k4:World}{m:Nat}{W W':World}{l:List Ob}{vo:Value}{ps:List (Int×ByteArray×List Int)}(c:Ur k4 m W l vo ps)(hb:Below W.heap.size W W'):Ur k4 m W' l vo ps:=
 ⟨c.mp,c.bx.step hb,c.ob.below hb (Qhq _),c.rs.below hb (Qhq _),c.be.trans (hb.mono (Qhr (Nat.le_of_lt c.bx.lt) (Qhq _)))⟩
structure Yp (k4:World) (m:Nat) (W:World) (l:List Ob) (vo:Value) (ps:List (Int×ByteArray×List Int)) (M mo:Nat) (o:Ob) (X:List Int) (a:Option Addr) (cc k:Nat):Prop where
 pc:Ur k4 m W l vo ps
 bo:Blk W mo [Qhs .i64 o.k,Qht o.t,Qhp a o.r.length cc] 37
 ro:Qa W M (.slice a o.r.length cc) (Ji (wh X) o.r k)
 lo:∀i (hi:i<l.length) q,l[i].rv.ownBlock=some q→q<M
 hM:m+1≤M
theorem Yp.step {k4:World}{m:Nat}{W W':World}{l:List Ob}{vo:Value}{ps:List (Int×ByteArray×List Int)}{M mo:Nat}{o:Ob}{X:List Int}{a:Option Addr}{cc k:Nat}(c:Yp k4 m W l vo ps M mo o X a cc k)(hb:Below W.heap.size W W'):Yp k4 m W' l vo ps M mo o X a cc k:=
 ⟨c.pc.step hb,c.bo.step hb,c.ro.below hb (Qhq _),c.lo,c.hM⟩
theorem Yp.set {k4:World}{m:Nat}{W:World}{l:List Ob}{vo:Value}{ps:List (Int×ByteArray×List Int)}{M mo:Nat}{o:Ob}{X:List Int}{g cc k:Nat}(c:Yp k4 m W l vo ps M mo o X (some ⟨g,0,none⟩) cc k)(hk:k<o.r.length):Yp k4 m (W.setCell ⟨g,k,none⟩ (.int .i64 (wh X o.r[k]))) l vo ps M mo o X (some ⟨g,0,none⟩) cc (k+1):=by
 have hg:M≤g:=(c.ro.lt g rfl).1
 have hM:=c.hM
 have n1:m+1≠g:=fun q=>Qr c.ro c.pc.bx (by decide) (by rw[q];rfl)
 have n2:mo≠g:=fun q=>Qr c.ro c.bo (by decide) (by rw[q];rfl)
 have n3:vo.ownBlock≠some g:=fun q=>by
  rcases Um c.pc.ob c.ro (by decide)with e|e
  ·rw[e]at q;cases q
  ·exact e q
 refine⟨⟨c.pc.mp,c.pc.bx.other _ _ n1,ownsRow_setCell_other c.pc.ob n3 _,⟨fun i hi=>ownsRow_setCell_other (c.pc.rs.own i hi) (fun q=>?_) _,c.pc.rs.inc⟩,c.pc.be.setCell (by dsimp only;omega) _⟩,c.bo.other _ _ n2,?_,c.lo,c.hM⟩
 ·have:=c.lo i hi g q
  omega
 ·have:=c.ro.set (UJ _ _ _ (Nat.le_of_lt hk)).symm (k:=k) (wh X o.r[k])
  rw[KG _ _ _ hk]at this
  exact this
theorem Yp.next {k4:World}{m:Nat}{W w3:World}{l:List Ob}{va:Option Addr}{vcap:Nat}{ps:List (Int×ByteArray×List Int)}{M mo:Nat}{o:Ob}{X:List Int}{a:Option Addr}{cc:Nat}(c:Yp k4 m W l (.slice va l.length vcap) ps M mo o X a cc o.r.length)
 (q cap:Nat)(hown:w3.ownsRow (m+1) 37 3 (.slice (some ⟨q,0,none⟩) (l.length+1) cap) (l.length+1) (l.flatMap Ob.cs++ [Qhs .i64 o.k,Qht o.t,Qhp a o.r.length cc]))(hg:(W.alloc (Obj.cells #[Qhs .i64 o.k,Qht o.t,Qhp a o.r.length cc] 37)).grownBy w3 (Qhp va l.length vcap).ownBlock):
 Ur k4 m (w3.setCell ⟨m+1,0,none⟩ (.slice (some ⟨q,0,none⟩) (l.length+1) cap)) (l++ [⟨o.k,o.t,a,cc,o.r.map (wh X)⟩]) (.slice (some ⟨q,0,none⟩) (l.length+1) cap) (ps++ [QY X o]):=by
 have hA:Below W.heap.size W (W.alloc (Obj.cells #[Qhs .i64 o.k,Qht o.t,Qhp a o.r.length cc] 37)):=Qz _ _
 have cA:=c.step hA
 have hro:=cA.ro
 rw[KE]at hro
 have hrv:(⟨o.k,o.t,a,cc,o.r.map (wh X)⟩:Ob).rv=.slice a o.r.length cc:=by simp[Ob.rv]
 have bx3:=cA.pc.bx.grown hg (Qr cA.pc.ob cA.pc.bx (by decide))
 have hown':Qu w3 (m+1) (.slice (some ⟨q,0,none⟩) (l.length+1) cap) (l++ [⟨o.k,o.t,a,cc,o.r.map (wh X)⟩]):=by unfold Qu;simpa[Ob.cs]using hown
 have rs3:=cA.pc.rs.grown cA.pc.ob (by decide) hg
 have ro3:Qa w3 M (.slice a o.r.length cc) (o.r.map (wh X)):=QK hro cA.pc.ob hg (by decide)
 have k3:Qh 27 w3 (w3.setCell ⟨m+1,0,none⟩ (.slice (some ⟨q,0,none⟩) (l.length+1) cap)):=Qh.set bx3 0 _
 have hs:m+1≤(W.alloc (Obj.cells #[Qhs .i64 o.k,Qht o.t,Qhp a o.r.length cc] 37)).heap.size:=Nat.le_of_lt cA.pc.bx.lt
 refine⟨by rw[List.map_append,c.pc.mp];rfl,bx3.store 0 _,Qm hown' k3 (by decide),?_,(cA.pc.be.trans (QL hg hs (fun k e=>(cA.pc.ob.lt k e).1))).setCell (Qhq _) _⟩
 refine(rs3.snoc _ (by rw[hrv];exact ro3.base c.hM) fun i hi x y hx hy=>?_).keep k3
 have h1:=c.lo i hi x hx
 rw[hrv]at hy
 have h2:=(ro3.lt y hy).1
 omega
theorem Qfv {X:List Int}{x:Int}(h:0≤pos X x):X[(pos X x).toNat]? =some x:=by
 induction X with
 |nil=>simp[pos]at h
 |cons z l ih=>
  unfold pos at h⊢
  by_cases hz:z=x
  ·simp[hz]
  ·simp only[hz,if_false]at h⊢
   by_cases hp:pos l x<0
   ·simp[hp]at h
   ·simp only[hp,if_false]
    have h0:0≤pos l x:=by omega
    have e:(pos l x+1).toNat=(pos l x).toNat+1:=by omega
    rw[e,List.getElem?_cons_succ]
    exact ih h0
theorem Qbf (X:List Int)(z:Int):-1≤wh X z∧wh X z<X.length:=by
 unfold wh
 split
 ·omega
 ·exact Ul X z
theorem QeU {ws:List (Int×Int)}{X:List Int}{p:Int×Int}(h:p∈Qw ws X):∃q∈ws,0≤pos X q.1∧0≤pos X q.2∧p=(pos X q.1,pos X q.2):=by
 unfold Qw at h
 obtain⟨q,hq,rfl⟩:=List.mem_map.1 h
 rw[List.mem_filter,Bool.and_eq_true,decide_eq_true_eq,decide_eq_true_eq]at hq
 exact⟨q,hq.1,hq.2.1,hq.2.2,rfl⟩
theorem OV (ws:List (Int×Int))(X:List Int):(Qw ws X).length≤ws.length:=by
 unfold Qw;rw[Qhx];exact List.length_filter_le _ _
theorem OkC.collect {g:Hp}(c:OkC g){X:List Int}(hp:Qq g.os.length X){l:List Ob}(hl:l.map Ob.p=(pick g.os X).map (QY X))(oa:Option Addr)(oc:Nat)(ra:Option Addr)(rc:Nat)(wa:Option Addr)(wc':Nat)(da:Option Addr)(dc:Nat):OkC ⟨oa,oc,l,ra,rc,g.rs.map (wh X),wa,wc',Qw g.ws X,da,dc,Qw g.ds X⟩:=by
 have hll:l.length=X.length:=by
  have:=congrArg List.length hl
  simpa[YB]using this
 have hXn:=hp.len
 have n60:=c.n60
 have hat:∀i (hi:i<l.length) (hx:i<X.length),∃hz:X[i].toNat<g.os.length,l[i].p=QY X g.os[X[i].toNat]:=fun i hi hx=>by
  have hr:=hp.rng X[i] (List.getElem_mem hx)
  have hz:X[i].toNat<g.os.length:=by omega
  refine⟨hz,?_⟩
  have h1:(l.map Ob.p)[i]? =((pick g.os X).map (QY X))[i]? :=by rw[hl]
  rw[Qhw,Qhw,Qhu hi,Qhu (by rw[YB];exact hx)]at h1
  simp only[Qhv,Option.some.injEq]at h1
  rw[h1,O5 (by rw[YB];exact hx) hx hz]
 have hwt:∀(ws:List (Int×Int)),(∀p∈ws,Qp (g.os.map Ob.p) p=true)→∀p∈Qw ws X,Qp (l.map Ob.p) p=true:=fun ws hw p hpm=>by
  obtain⟨q,hq,h1,h2,rfl⟩:=QeU hpm
  have hw':=hw q hq
  simp only[Qp,inB,Bool.and_eq_true,decide_eq_true_eq,Qhx]at hw'⊢
  have b1:=Ul X q.1
  have b2:=Ul X q.2
  have hi:(pos X q.1).toNat<X.length:=by omega
  have hg:=Qfv h1
  rw[Qhu hi]at hg
  simp only[Option.some.injEq]at hg
  obtain⟨hz,he⟩:=hat (pos X q.1).toNat (by omega) hi
  refine⟨⟨⟨h1,by omega⟩,h2,by omega⟩,?_⟩
  rw[Qhw,Qhu (by omega),Qhv,Qhv,he]
  have h4:=hw'.2
  have hq0:q.1.toNat<g.os.length:=by have:=hw'.1.1;omega
  rw[Qhw,Qhu hq0,Qhv,Qhv]at h4
  simp only[QY,Ob.p,Option.some.injEq]at h4⊢
  simp only[hg]
  exact h4
 refine⟨by simp only;omega,by simpa using c.r8,?_,fun i hi=>?_,fun z hz=>?_,hwt g.ws c.wo,hwt g.ds c.dd⟩
 ·have:=OV g.ws X
  have:=OV g.ds X
  have:=c.w20
  simp only;omega
 ·simp only at hi⊢
  obtain⟨hz,he⟩:=hat i hi (by omega)
  rw[he]
  have h1:=c.ob _ hz
  simp only[Qs,Ob.p,QY,Bool.and_eq_true,Qhx]at h1⊢
  refine⟨?_,h1.2⟩
  unfold QZ
  rw[List.all_eq_true]
  intro y hy
  obtain⟨x,_,rfl⟩:=List.mem_map.1 hy
  have:=Qbf X x
  simp only[inB,Bool.and_eq_true,decide_eq_true_eq]
  omega
 ·simp only at hz⊢
  obtain⟨x,_,rfl⟩:=List.mem_map.1 hz
  have:=Qbf X x
  omega
structure YZ (k4:World) (m:Nat) (W:World) (l:List Ob) (vo:Value) (N:Nat) (vr:Value) (zs:List Int):Prop where
 bx:Blk W (m+1) [vo,vr,.slice none 0 0,.slice none 0 0] 27
 ob:Qu W (m+1) vo l
 rs:QJ W (m+1) l
 lo:∀i (hi:i<l.length) q,l[i].rv.ownBlock=some q→q<N
 rr:Qa W N vr zs
 be:Below (m+1) k4 W
 hN:m+1≤N
 sz:N≤W.heap.size
theorem YZ.step {k4:World}{m:Nat}{W W':World}{l:List Ob}{vo:Value}{N:Nat}{vr:Value}{zs:List Int}(c:YZ k4 m W l vo N vr zs)(hb:Below W.heap.size W W'):YZ k4 m W' l vo N vr zs:=
 ⟨c.bx.step hb,c.ob.below hb (Qhq _),c.rs.below hb (Qhq _),c.lo,c.rr.below hb (Qhq _),c.be.trans (hb.mono (Qhr c.hN c.sz)),c.hN,Qhr c.sz hb.size⟩
theorem YZ.next {k4:World}{m:Nat}{W W':World}{l:List Ob}{vo:Value}{N:Nat}{vr vr':Value}{zs zs':List Int}(c:YZ k4 m W l vo N vr zs)(hg:W.grownBy W' vr.ownBlock)(hr:Qa W' N vr' zs'):YZ k4 m (W'.setCell ⟨m+1,1,none⟩ vr') l vo N vr' zs'∧W'.cell? ⟨m+1,1,none⟩=some vr∧W'.frozen? ⟨m+1,1,none⟩=false∧Below (m+1) k4 W':=by
 have bx2:=c.bx.grown hg (Qr c.rr c.bx (by decide))
 have k3:Qh 27 W' (W'.setCell ⟨m+1,1,none⟩ vr'):=Qh.set bx2 1 _
 have hb:=c.be.trans (QL hg (Qhr c.hN c.sz) (fun q e=>Qhr c.hN (c.rr.lt q e).1))
 refine⟨⟨bx2.store 1 _,Qm (QK c.ob c.rr hg (by decide)) k3 (by decide),⟨fun i hi=>Qm (World.ownsRow.kept (c.rs.own i hi) hg ?_) k3 (by decide),c.rs.inc⟩,c.lo,Qm hr k3 (by decide),hb.setCell (Qhq _) _,c.hN,?_⟩,bx2.cell 1,bx2.free 1,hb⟩
 ·cases q:l[i].rv.ownBlock with
  |none=>exact Or.inl rfl
  |some x=>
   refine Or.inr fun e=>?_
   have h1:=c.lo i hi x q
   have h2:=(c.rr.lt x e.symm).1
   omega
 ·have:=hg.size
  have:=c.sz
  simp[World.setCell]
  omega
theorem Ou {W:World}{m N:Nat}{l:List Ob}{va:Option Addr}{vcap:Nat}{ra:Option Addr}{rcap:Nat}{zs:List Int}{wa:Option Addr}{wcap:Nat}{ws:List (Int×Int)}{da:Option Addr}{dcap:Nat}{ds:List (Int×Int)}{B1 B2:Nat}
 (ob:Qu W (m+1) (.slice va l.length vcap) l)(rs:QJ W (m+1) l)(rr:Qa W N (.slice ra zs.length rcap) zs)(ow:Qe W B1 (.slice wa ws.length wcap) ws)(od:Qe W B2 (.slice da ds.length dcap) ds):Qg W ⟨va,vcap,l,ra,rcap,zs,wa,wcap,ws,da,dcap,ds⟩:=by
 refine⟨?_,?_,?_,?_⟩
 ·obtain⟨a,cap,e,_,hs⟩:=ob.form
  simp only[Value.slice.injEq]at e
  obtain⟨rfl,_⟩:=e
  exact hs (fun i hi=>rs.seg i hi)
 ·obtain⟨a,cap,e,hs,_⟩:=rr.form
  simp only[Value.slice.injEq]at e
  obtain⟨rfl,_⟩:=e
  exact hs
 ·obtain⟨a,cap,e,hs,_⟩:=ow.form
  simp only[Value.slice.injEq]at e
  obtain⟨rfl,_⟩:=e
  exact hs
 ·obtain⟨a,cap,e,hs,_⟩:=od.form
  simp only[Value.slice.injEq]at e
  obtain⟨rfl,_⟩:=e
  exact hs
theorem QJ.cap {w:World}{base:Nat}{l:List Ob}(h:QJ w base l)(i:Nat)(hi:i<l.length):l[i].r.length≤l[i].rcap:=by
 obtain⟨a,cap,e,_,h1,_⟩:=(h.own i hi).form
 simp only[Ob.rv,Value.slice.injEq]at e
 omega
def Hp.nil:Hp:=⟨none,0,[],none,0,[],none,0,[],none,0,[]⟩
theorem Hp.nil_ok:OkC Hp.nil:=⟨by simp[Hp.nil],by simp[Hp.nil],by simp[Hp.nil],fun i hi=>by simp[Hp.nil]at hi,fun z hz=>by simp[Hp.nil]at hz,fun p hp=>by simp[Hp.nil]at hp,fun p hp=>by simp[Hp.nil]at hp⟩
theorem Hp.nil_in (w:World):Qg w Hp.nil:=⟨⟨fun hm=>by simp[Hp.nil]at hm,fun i hi=>by simp[Hp.nil]at hi⟩,fun hm=>by simp[Hp.nil]at hm,fun hm=>by simp[Hp.nil]at hm,fun hm=>by simp[Hp.nil]at hm⟩
theorem OkC.of_p {g h:Hp}(e:g.p=h.p)(c:OkC h):OkC g:=YN (by rw[e];exact YA c)
structure CoG (w k4:World) (m:Nat) (g:Hp) (xa:Option Addr) (X:List Int):Prop where
 hm:k4.heap.size=m+1
 bg:Blk k4 m [Qhp g.oa g.os.length g.ocap,Qhp g.ra g.rs.length g.rcap,Qhp g.wa g.ws.length g.wcap,Qhp g.da g.ds.length g.dcap] 27
 br:Blk k4 (w.heap.size+1) [Qhp none 0 0,Qhp none 0 0,Qhp none 0 0,Qhp none 0 0] 27
 be:Below w.heap.size w k4
 gi:Qg k4 g
 gk:OkC g
 kn:Qk k4 xa X
 pl:Qq g.os.length X
 sz:w.heap.size+1+1<k4.heap.size
end
end Go.Proofs.YtcpnkpogebjieaaGreat
