/- The specification's own drawing: a reader opened; one text of several. -/
import Derived.Test.YtcpnkpogebjieaaGreatS45Eb
import Derived.Test.YtcpnkpogebjieaaGreatS31Di
open Go.Value renaming slice→QhR,int→QhT
open Go.Obj renaming cells→QhS
open Nat renaming le_refl→QhU
open List renaming replicate→QhV
set_option maxHeartbeats 800000
set_option maxRecDepth 100000
namespace Go.Proofs.YtcpnkpogebjieaaGreat
section
open Go.RowKit
theorem Pl (g b:Nat)(c:Cd)(k:Int)(ts:List ByteArray)(w:World)(hc:J5 c)(hr:Rd w g c k)(hk:k+1<1000000)(h0:0<ts.length)(hl:ts.length≤100)(hb:Blk w b (ts.map Value.string) 9)(hne:b≠g):
 Calls Cut.prog 95 #[.pointer (some ⟨g,0,none⟩),.slice (some ⟨b,0,none⟩) ts.length ts.length] w fun e w'=>∃t∈ts,e=.returned (.string t)∧ZO g c (k+1) w w':=by
 have c1:=QK g c k (ts.length:Int) w hc hr hk (by omega);go_enter (Cut.func_of Tryz.func95 rfl),Tryz.ntmps95;go_wp2_with fail;refine c1.mono ?_;rintro e w1 ⟨z,rfl,hz0,hz1,-,hP⟩;have hb1:=hb.grown hP.gb (by simp;omega);have hz2:=hz1 (by omega);have hi:z.toNat<ts.length:=by omega
 have d1:w1.cell? ⟨b,z.toNat,none⟩=some (.string ts[z.toNat]):=by
  rw[hb1.cell z.toNat,List.getElem?_map,List.getElem?_eq_getElem hi];rfl
 have HM:Hid (ts[z.toNat]∈ts):=List.getElem_mem hi;generalize ts[z.toNat]=t at d1 HM;clear c1 hb1 hz1;go_wp2;go_ret;exact⟨t,HM.out,rfl,hP⟩
theorem QaI {w:World}{c:Cd}(hs:0<c.bs.length→∃b off,c.a=some ⟨b,off,none⟩∧b<w.heap.size∧∀i (hi:i<c.bs.length),w.cell? ⟨b,off+i,none⟩=some (.int .u8 c.bs[i])):
 Rd (w.alloc (QhS #[QhR c.a c.bs.length c.cap,QhT .i64 0] 92)) w.heap.size c 0∧Below w.heap.size w (w.alloc (QhS #[QhR c.a c.bs.length c.cap,QhT .i64 0] 92)):=by
 have hA:Below w.heap.size w (w.alloc (QhS #[QhR c.a c.bs.length c.cap,QhT .i64 0] 92)):=(Below.refl _ _).alloc (QhU _) _;refine⟨⟨Blk.new w _ _,fun hm=>?_,by omega,by omega⟩,hA⟩;obtain⟨b,off,h1,h2,h3⟩:=hs hm;exact⟨b,off,h1,h2,fun i hi=>(hA.cell (p:=⟨b,_,none⟩) h2).trans (h3 i hi)⟩
theorem QeL (a:Option Addr)(cap:Nat)(bs:List Int)(w:World)(hcap:bs.length≤cap)(hm:cap≤maxLen)(hby:∀x∈bs,0≤x∧x<256)(hs:0<bs.length→∃b off,a=some ⟨b,off,none⟩∧b<w.heap.size∧∀i (hi:i<bs.length),w.cell? ⟨b,off+i,none⟩=some (.int .u8 bs[i])):
 Calls Cut.prog 31 #[.slice a bs.length cap] w fun e w'=>∃(g:Nat) (c:Cd),e=.returned (.pointer (some ⟨g,0,none⟩))∧J5 c∧Rd w' g c 0∧w.heap.size≤g∧Below w.heap.size w w':=by
 unfold maxLen at hm;by_cases hl:2000<bs.length
 ·obtain⟨b,off,rfl,hb,hcell⟩:=hs (by omega);have hlb:decide (2000<(bs.length:Int))=true:=by simp;omega
  go_enter (Cut.func_of Tryz.func31 rfl),Tryz.ntmps31;go_wp2;go_ret;have ht:(bs.take 2000).length=2000:=by rw[List.length_take];omega
  obtain⟨hR,hB⟩:=QaI (w:=w) (c:=⟨some ⟨b,off,none⟩,bs.take 2000,cap⟩) (fun _=>⟨b,off,rfl,hb,fun i hi=>by
   dsimp only at hi⊢;rw[List.getElem_take]
   exact hcell i (by omega)⟩)
  dsimp only at hR hB;rw[ht]at hR hB;exact⟨_,_,rfl,⟨by dsimp only;omega,fun x hx=>hby x (List.mem_of_mem_take hx)⟩,hR,QhU _,hB⟩
 ·have hlb:decide (2000<(bs.length:Int))=false:=by simp;omega
  go_enter (Cut.func_of Tryz.func31 rfl),Tryz.ntmps31;go_wp2;go_ret;obtain⟨hR,hB⟩:=QaI (w:=w) (c:=⟨a,bs,cap⟩) hs;exact⟨_,⟨a,bs,cap⟩,rfl,⟨by dsimp only;omega,hby⟩,hR,QhU _,hB⟩
theorem U0 (W:World)(B:Nat):Qa W B (.slice none 0 0) []:=⟨rfl,Or.inl ⟨rfl,rfl⟩⟩
theorem UR {a b c:World}{g:Nat}{s:Option Nat}(h:a.grownBy b (some g))(k:b.grownBy c s)(hs:∀j,s=some j→j=g∨a.heap.size≤j):a.grownBy c (some g):=by
 refine⟨k.os.trans h.os,k.tape.trans h.tape,k.output.trans h.output,Nat.le_trans h.size k.size,fun i hi hr=>?_⟩;refine(k.block i (Nat.lt_of_lt_of_le hi h.size) (fun e=>?_)).trans (h.block i hi hr);rcases hs i e.symm with e1|e1
 ·exact hr (by rw[e1])
 ·omega
structure Dw (w:World) (g:Nat) (cd:Cd) (k:Int) (W:World):Prop where
 gb:w.grownBy W (some g)
 rd:Rd W g cd k
 gw:g<w.heap.size
theorem Dw.start {w:World}{g:Nat}{cd:Cd}{k:Int}(h:Rd w g cd k):Dw w g cd k w:=⟨US _ _,h,h.blk.lt⟩
theorem Dw.next {w:World}{g:Nat}{cd:Cd}{k k':Int}{W W':World}{s:Option Nat}(d:Dw w g cd k W)(hg:W.grownBy W' s)(hs:∀j,s=some j→j=g∨w.heap.size≤j)(hr:Rd W' g cd k'):Dw w g cd k' W':=⟨UR d.gb hg hs,hr,d.gw⟩
theorem Dw.step {w:World}{g:Nat}{cd:Cd}{k:Int}{W W':World}{s:Option Nat}(d:Dw w g cd k W)(hg:W.grownBy W' s)(hs:∀j,s=some j→w.heap.size≤j):Dw w g cd k W':=
 d.next hg (fun j e=>Or.inr (hs j e)) (d.rd.grown hg (fun j e=>Nat.lt_of_lt_of_le d.gw (hs j e)))
theorem Dw.pick {w:World}{g:Nat}{cd:Cd}{k k':Int}{W W':World}(d:Dw w g cd k W)(hp:ZO g cd k' W W'):Dw w g cd k' W':=d.next hp.gb (fun j e=>Or.inl (by simpa using e.symm)) hp.rd
theorem Dw.grow {w:World}{g:Nat}{cd:Cd}{k:Int}{W W':World}(d:Dw w g cd k W)(hb:Below W.heap.size W W'):Dw w g cd k W':=d.step (Jd hb (QhU _) none) (fun j e=>by cases e)
theorem Dw.call {w:World}{g:Nat}{cd:Cd}{k k':Int}{W W':World}(d:Dw w g cd k W)(d':Dw W g cd k' W'):Dw w g cd k' W':=d.next d'.gb (fun j e=>Or.inl (by simpa using e.symm)) d'.rd
theorem Dw.set {w:World}{g:Nat}{cd:Cd}{k:Int}{W:World}(d:Dw w g cd k W){R:Nat}(hR:w.heap.size≤R)(j:Nat)(v:Value):Dw w g cd k (W.setCell ⟨R,j,none⟩ v):=d.step (Q1 W R j v) (fun i e=>by simp at e;omega)
theorem Dw.sets4 {w:World}{g:Nat}{cd:Cd}{k:Int}{W:World}(d:Dw w g cd k W){R:Nat}(hR:w.heap.size≤R)(v0 v1 v2 v3:Value):Dw w g cd k ((((W.setCell ⟨R,0,none⟩ v0).setCell ⟨R,1,none⟩ v1).setCell ⟨R,2,none⟩ v2).setCell ⟨R,3,none⟩ v3):=
 (((d.set hR 0 v0).set hR 1 v1).set hR 2 v2).set hR 3 v3
theorem Dw.blk {w:World}{g:Nat}{cd:Cd}{k:Int}{W:World}(d:Dw w g cd k W){B t:Nat}{cs:List Value}(h:Blk w B cs t)(hB:B≠g):Blk W B cs t:=h.grown d.gb (by simp;omega)
theorem YL {W W':World}{base e size n g:Nat}{v:Value}{xs:List Value}(h:W.ownsRow base e size v n xs)(hg:W.grownBy W' (some g))(hb:g<base):W'.ownsRow base e size v n xs:=World.ownsRow.kept h hg (by
 cases hv:v.ownBlock with
 |none=>exact Or.inl rfl
 |some k=>exact Or.inr fun e=>by have:=(h.lt k hv).1;simp at e;omega)
theorem Qk.far {W W':World}{B g:Nat}{h:Hp}(hh:Qk W B h)(hg:W.grownBy W' (some g))(hb:g<B):Qk W' B h:=
 ⟨YL hh.ob hg hb,fun i hi=>YL (hh.rs i hi) hg hb,hh.rne,YL hh.ro hg hb,hh.rro,YL hh.wa hg hb,YL hh.da hg hb,hh.wne⟩
structure DrW (w:World) (h:Hp) (g:Nat) (cd:Cd) (q:Nat) (m:Nat) (k:Int) (e:Ev) (W:World):Prop where
 gb:w.grownBy W (some g)
 rd:Rd W g cd k
 gw:g<w.heap.size
 bh:Blk W w.heap.size [QhR h.oa h.os.length h.ocap,QhR h.ra h.rs.length h.rcap,QhR h.wa h.ws.length h.wcap,QhR h.da h.ds.length h.dcap] 27
 br:Blk W (w.heap.size+1) [QhT .i64 0,QhT .i64 0,QhT .i64 0,QhT .i64 0,QhT .i64 0,Value.string ⟨#[]⟩,QhR none 0 0] 75
 be:Blk W q e.cs 75
 hq:w.heap.size+1<q
 own:Qa W w.heap.size (.slice e.o.ra e.o.r.length e.o.rcap) e.o.r
 txt:e.o.t.size≤13
 len:e.o.r.length≤m
theorem DrW.turn {w:World}{h:Hp}{g:Nat}{cd:Cd}{q m:Nat}{k k':Int}{e:Ev}{W W':World}{s:Option Nat}(d:DrW w h g cd q m k e W)(hg:W.grownBy W' s)(hs:∀j,s=some j→j=g∨W.heap.size≤j)(hr:Rd W' g cd k'):DrW w h g cd q m k' e W':=by
 have hsz:=d.gb.size;have h1:=d.bh.lt;have h2:=d.br.lt;have h3:=d.be.lt;have gw:=d.gw;have hq:=d.hq;refine⟨UR d.gb hg (fun j e=>?_),hr,d.gw,d.bh.grown hg (fun e=>?_),d.br.grown hg (fun e=>?_),d.be.grown hg (fun e=>?_),d.hq,d.own.kept hg ?_,d.txt,d.len⟩
 ·rcases hs j e with e|e
  ·exact Or.inl e
  ·exact Or.inr (by omega)
 ·rcases hs _ e with e|e<;>omega
 ·rcases hs _ e with e|e<;>omega
 ·rcases hs _ e with e|e<;>omega
 ·cases hv:(QhR e.o.ra e.o.r.length e.o.rcap).ownBlock with
  |none=>exact Or.inl rfl
  |some j=>
   refine Or.inr fun e=>?_;have:=d.own.lt j hv;rcases hs _ e.symm with e|e<;>omega
theorem DrW.pick {w:World}{h:Hp}{g:Nat}{cd:Cd}{q m:Nat}{k k':Int}{e:Ev}{W W':World}(d:DrW w h g cd q m k e W)(hp:ZO g cd k' W W'):DrW w h g cd q m k' e W':=
 d.turn hp.gb (fun j e=>Or.inl (by simpa using e.symm)) hp.rd
theorem DrW.grow {w:World}{h:Hp}{g:Nat}{cd:Cd}{q m:Nat}{k:Int}{e:Ev}{W W':World}(d:DrW w h g cd q m k e W)(hb:Below W.heap.size W W'):DrW w h g cd q m k e W':=
 d.turn (Jd hb (QhU _) none) (fun j e=>by cases e) (d.rd.below hb d.rd.blk.lt)
theorem DrW.put {w:World}{h:Hp}{g:Nat}{cd:Cd}{q m m':Nat}{k:Int}{e e':Ev}{W W':World}{s:Option Nat}(d:DrW w h g cd q m k e W)(hg:W.grownBy W' s)(hs:∀j,s=some j→w.heap.size+1<j)(hb:Blk W' q e'.cs 75)(ho:Qa W' w.heap.size (.slice e'.o.ra e'.o.r.length e'.o.rcap) e'.o.r)(ht:e'.o.t.size≤13)(hl:e'.o.r.length≤m'):DrW w h g cd q m' k e' W':=by
 have gw:=d.gw;refine⟨UR d.gb hg (fun j e=>Or.inr (by have:=hs j e;omega)),d.rd.grown hg (fun j e=>by have:=hs j e;omega),d.gw,d.bh.grown hg (fun e=>by have:=hs _ e;omega),d.br.grown hg (fun e=>by have:=hs _ e;omega),hb,d.hq,ho,ht,hl⟩
theorem DrW.set {w:World}{h:Hp}{g:Nat}{cd:Cd}{q m:Nat}{k:Int}{e:Ev}{W:World}(d:DrW w h g cd q m k e W)(j:Nat)(v:Value)(e':Ev)(he:e'.cs=e.cs.set j v)(h1:e'.o.ra=e.o.ra)(h2:e'.o.r=e.o.r)(h3:e'.o.rcap=e.o.rcap)(ht:e'.o.t.size≤13):DrW w h g cd q m k e' (W.setCell ⟨q,j,none⟩ v):=by
 refine d.put (Q1 W q j v) (fun i e=>by simp at e;have:=d.hq;omega) (he▸d.be.store j v) ?_ ht (by rw[h2];exact d.len);rw[h1,h2,h3];exact d.own.kept (Q1 W q j v) (Or.inr (d.own.ne d.be (by decide)))
theorem DrW.obj {w:World}{h:Hp}{g:Nat}{cd:Cd}{q m:Nat}{k:Int}{e:Ev}{W:World}(d:DrW w h g cd q m k e W)(z:Int)(t:ByteArray)(ht:t.size≤13):DrW w h g cd q 0 k ⟨e.k,e.to,e.fr,e.pt,⟨z,t,none,0,[]⟩⟩ (((W.setCell ⟨q,4,none⟩ (.int .i64 z)).setCell ⟨q,5,none⟩ (.string t)).setCell ⟨q,6,none⟩ (.slice none 0 0)):=by
 have hg:=Z4 (Z4 (Q1 W q 4 (.int .i64 z)) (Q1 _ q 5 (.string t))) (Q1 _ q 6 (.slice none 0 0));refine d.put hg (fun i e=>by simp at e;have:=d.hq;omega) (((d.be.store 4 _).store 5 _).store 6 _) (U0 _ _) ht (Nat.zero_le _)
theorem DrW.obj2 {w:World}{h:Hp}{g:Nat}{cd:Cd}{q m:Nat}{k:Int}{e:Ev}{W:World}(d:DrW w h g cd q m k e W)(z:Int)(t:ByteArray)(ht:t.size≤13)(a:Option Addr)(c:Nat)(r:List Int)(ho:Qa W w.heap.size (.slice a r.length c) r):DrW w h g cd q r.length k ⟨e.k,e.to,e.fr,e.pt,⟨z,t,a,c,r⟩⟩ (((W.setCell ⟨q,4,none⟩ (.int .i64 z)).setCell ⟨q,5,none⟩ (.string t)).setCell ⟨q,6,none⟩ (.slice a r.length c)):=by
 have hg:=Z4 (Z4 (Q1 W q 4 (.int .i64 z)) (Q1 _ q 5 (.string t))) (Q1 _ q 6 (.slice a r.length c));refine d.put hg (fun i e=>by simp at e;have:=d.hq;omega) (((d.be.store 4 _).store 5 _).store 6 _) ?_ ht (QhU _);exact ho.kept hg (Or.inr (ho.ne d.be (by decide)))
theorem DrW.refs {w:World}{h:Hp}{g:Nat}{cd:Cd}{q m:Nat}{k:Int}{e:Ev}{W:World}(d:DrW w h g cd q m k e W)(a:Option Addr)(c:Nat)(r:List Int)(ho:Qa W w.heap.size (.slice a r.length c) r):DrW w h g cd q r.length k ⟨e.k,e.to,e.fr,e.pt,⟨e.o.k,e.o.t,a,c,r⟩⟩ (W.setCell ⟨q,6,none⟩ (.slice a r.length c)):=by
 refine d.put (Q1 W q 6 _) (fun i e=>by simp at e;have:=d.hq;omega) (d.be.store 6 _) ?_ d.txt (QhU _);exact ho.kept (Q1 W q 6 _) (Or.inr (ho.ne d.be (by decide)))
theorem DrW.most {w:World}{h:Hp}{g:Nat}{cd:Cd}{q m m':Nat}{k:Int}{e:Ev}{W:World}(d:DrW w h g cd q m k e W)(hm:m≤m'):DrW w h g cd q m' k e W:={d with len:=Nat.le_trans d.len hm}
theorem DrW.dw {w:World}{h:Hp}{g:Nat}{cd:Cd}{q m:Nat}{k:Int}{e:Ev}{W:World}(d:DrW w h g cd q m k e W):Dw w g cd k W:=⟨d.gb,d.rd,d.gw⟩
theorem DrW.cells {w:World}{h:Hp}{g:Nat}{cd:Cd}{q m:Nat}{k:Int}{e:Ev}{W:World}(d:DrW w h g cd q m k e W):
 (W.cell? ⟨q,0,none⟩=some (.int .i64 e.k)∧W.cell? ⟨q,1,none⟩=some (.int .i64 e.to)∧W.cell? ⟨q,2,none⟩=some (.int .i64 e.fr)∧W.cell? ⟨q,3,none⟩=some (.int .i64 e.pt)∧W.cell? ⟨q,4,none⟩=some (.int .i64 e.o.k)∧W.cell? ⟨q,5,none⟩=some (.string e.o.t)∧W.cell? ⟨q,6,none⟩=some (.slice e.o.ra e.o.r.length e.o.rcap))∧
 (W.frozen? ⟨q,0,none⟩=false∧W.frozen? ⟨q,1,none⟩=false∧W.frozen? ⟨q,2,none⟩=false∧W.frozen? ⟨q,3,none⟩=false∧W.frozen? ⟨q,4,none⟩=false∧W.frozen? ⟨q,5,none⟩=false∧W.frozen? ⟨q,6,none⟩=false):=
 ⟨⟨d.be.cell 0,d.be.cell 1,d.be.cell 2,d.be.cell 3,d.be.cell 4,d.be.cell 5,d.be.cell 6⟩,d.be.free 0,d.be.free 1,d.be.free 2,d.be.free 3,d.be.free 4,d.be.free 5,d.be.free 6⟩
theorem DrW.app {w:World}{h:Hp}{g:Nat}{cd:Cd}{q m:Nat}{k:Int}{e:Ev}{W W2:World}{o:Obj}{g' c' n:Nat}(zs:List Int){vs:List Value}(d:DrW w h g cd q m k e W)(hvs:vs=(e.o.r++zs).map (QhT .i64))(hn:n=(e.o.r++zs).length)(hown:W2.ownsRow w.heap.size 3 1 (.slice (some ⟨g',0,none⟩) n c') n vs)(hg:(W.alloc o).grownBy W2 (QhR e.o.ra e.o.r.length e.o.rcap).ownBlock):
 Blk W2 q e.cs 75∧DrW w h g cd q (m+zs.length) k ⟨e.k,e.to,e.fr,e.pt,⟨e.o.k,e.o.t,some ⟨g',0,none⟩,c',e.o.r++zs⟩⟩ (W2.setCell ⟨q,6,none⟩ (.slice (some ⟨g',0,none⟩) n c')):=by
 subst hvs hn;have dA:=d.grow (W':=W.alloc o) ((Below.refl _ _).alloc (QhU _) _);have hs:=dA.own.lt;have gw:=d.gw;have hq:=d.hq;have be2:=dA.be.grown hg (dA.own.ne dA.be (by decide));have bh2:=dA.bh.grown hg (dA.own.ne dA.bh (by decide));have br2:=dA.br.grown hg (dA.own.ne dA.br (by decide));have rd2:=dA.rd.grown hg (fun j e=>by have:=(hs j e).1;omega);have gb2:=UR dA.gb hg (fun j e=>Or.inr (hs j e).1);refine⟨be2,UR gb2 (Q1 W2 q 6 _) (fun j e=>Or.inr (by simp at e;omega)),rd2.grown (Q1 W2 q 6 _) (fun j e=>by simp at e;omega),gw,bh2.grown (Q1 W2 q 6 _) (by simp;omega),br2.grown (Q1 W2 q 6 _) (by simp;omega),be2.store 6 _,hq,?_,d.txt,by have:=d.len;simp;omega⟩;exact Qm hown (Qf.set be2 6 _) (by decide)
theorem DrW.ret {w:World}{h:Hp}{g:Nat}{cd:Cd}{q m:Nat}{k:Int}{e:Ev}{W:World}(d:DrW w h g cd q m k e W)(v0 v1 v2 v3 v4 v5 v6:Value):
 Blk (((((((W.setCell ⟨w.heap.size+1,0,none⟩ v0).setCell ⟨w.heap.size+1,1,none⟩ v1).setCell ⟨w.heap.size+1,2,none⟩ v2).setCell ⟨w.heap.size+1,3,none⟩ v3).setCell ⟨w.heap.size+1,4,none⟩ v4).setCell ⟨w.heap.size+1,5,none⟩ v5).setCell ⟨w.heap.size+1,6,none⟩ v6) (w.heap.size+1) [v0,v1,v2,v3,v4,v5,v6] 75∧
 Dw w g cd k (((((((W.setCell ⟨w.heap.size+1,0,none⟩ v0).setCell ⟨w.heap.size+1,1,none⟩ v1).setCell ⟨w.heap.size+1,2,none⟩ v2).setCell ⟨w.heap.size+1,3,none⟩ v3).setCell ⟨w.heap.size+1,4,none⟩ v4).setCell ⟨w.heap.size+1,5,none⟩ v5).setCell ⟨w.heap.size+1,6,none⟩ v6)∧
 Qa (((((((W.setCell ⟨w.heap.size+1,0,none⟩ v0).setCell ⟨w.heap.size+1,1,none⟩ v1).setCell ⟨w.heap.size+1,2,none⟩ v2).setCell ⟨w.heap.size+1,3,none⟩ v3).setCell ⟨w.heap.size+1,4,none⟩ v4).setCell ⟨w.heap.size+1,5,none⟩ v5).setCell ⟨w.heap.size+1,6,none⟩ v6) w.heap.size (.slice e.o.ra e.o.r.length e.o.rcap) e.o.r:=by
 have b0:=d.br.store 0 v0;have b1:=b0.store 1 v1;have b2:=b1.store 2 v2;have b3:=b2.store 3 v3;have b4:=b3.store 4 v4;have b5:=b4.store 5 v5;have b6:=b5.store 6 v6;have hR:w.heap.size≤w.heap.size+1:=by omega
 refine⟨b6,((((((d.dw.set hR 0 v0).set hR 1 v1).set hR 2 v2).set hR 3 v3).set hR 4 v4).set hR 5 v5).set hR 6 v6,?_⟩;exact Qm d.own ((((((Qf.set d.br 0 v0).trans (Qf.set b0 1 v1)).trans (Qf.set b1 2 v2)).trans (Qf.set b2 3 v3)).trans (Qf.set b3 4 v4)).trans (Qf.set b4 5 v5) |>.trans (Qf.set b5 6 v6)) (by decide)
theorem DrW.anew {w:World}{h:Hp}{g:Nat}{cd:Cd}{q m:Nat}{k:Int}{e:Ev}{W:World}(d:DrW w h g cd q m k e W)(x y:Int):
 DrW w h g cd q 0 k ⟨x,y,0,0,⟨0,⟨#[]⟩,none,0,[]⟩⟩ (((((((W.setCell ⟨q,0,none⟩ (.int .i64 x)).setCell ⟨q,1,none⟩ (.int .i64 y)).setCell ⟨q,2,none⟩ (.int .i64 0)).setCell ⟨q,3,none⟩ (.int .i64 0)).setCell ⟨q,4,none⟩ (.int .i64 0)).setCell ⟨q,5,none⟩ (.string ⟨#[]⟩)).setCell ⟨q,6,none⟩ (.slice none 0 0)):=by
 have hg:=Z4 (Z4 (Z4 (Z4 (Z4 (Z4 (Q1 W q 0 (.int .i64 x)) (Q1 _ q 1 (.int .i64 y))) (Q1 _ q 2 (.int .i64 0))) (Q1 _ q 3 (.int .i64 0))) (Q1 _ q 4 (.int .i64 0))) (Q1 _ q 5 (.string ⟨#[]⟩))) (Q1 _ q 6 (.slice none 0 0));exact d.put hg (fun i e=>by simp at e;have:=d.hq;omega) (((((((d.be.store 0 _).store 1 _).store 2 _).store 3 _).store 4 _).store 5 _).store 6 _) (U0 _ _) (Nat.zero_le _) (Nat.zero_le _)
structure BsW (w:World) (g:Nat) (cd:Cd) (k:Int) (m:Nat) (a:Option Addr) (c:Nat) (W:World):Prop where
 dw:Dw w g cd k W
 br:Blk W w.heap.size [QhR none 0 0,QhR none 0 0,QhR none 0 0,QhR none 0 0] 27
 bh:Blk W (w.heap.size+1) [QhR none 0 0,QhR a m c,QhR none 0 0,QhR none 0 0] 27
 own:Qa W w.heap.size (.slice a m c) (QhV m (-1))
def Jg (a:Option Addr)(c:Nat)(rs:List Int):Hp:={oa:=none,ocap:=0,os:=[],ra:=a,rcap:=c,rs:=rs,wa:=none,wcap:=0,ws:=[],da:=none,dcap:=0,ds:=[]}
theorem Qgg (a:Option Addr)(c m:Nat)(hm:m≤8):OkC (Jg a c (QhV m (-1))):=by
 refine⟨by simp[Jg],by simpa[Jg]using hm,by simp[Jg],fun i hi=>by simp[Jg]at hi,fun z hz=>?_,fun p hp=>by simp[Jg]at hp,fun p hp=>by simp[Jg]at hp⟩
 have:z= -1:=by
  simp[Jg]at hz;exact hz.2
 subst this;simp[Jg]
theorem Qgh {W:World}{B:Nat}{a:Option Addr}{c:Nat}{rs:List Int}(h:Qa W B (.slice a rs.length c) rs):Qk W B (Jg a c rs):=
 ⟨⟨rfl,Or.inl ⟨rfl,rfl⟩⟩,fun i hi=>by simp[Jg]at hi,fun i j hi=>by simp[Jg]at hi,h,fun i hi=>by simp[Jg]at hi,⟨rfl,Or.inl ⟨rfl,rfl⟩⟩,⟨rfl,Or.inl ⟨rfl,rfl⟩⟩,fun k hk=>by simp[Jg,Value.ownBlock]at hk⟩
theorem QeZ (g:Nat)(cd:Cd)(k:Int)(w:World)(hc:J5 cd)(hr:Rd w g cd k)(hk:k+1<1000000):
 Calls Cut.prog 105 #[.pointer (some ⟨g,0,none⟩)] w fun e w'=>∃y:Hp,e=.returned y.v∧OkC y∧Qk w' w.heap.size y∧Dw w g cd (k+1) w':=by
 obtain⟨i0,hi0,hz0,hz1,hz2⟩:=info_parts Je;have hA:Below w.heap.size w ((w.alloc (QhS #[QhR none 0 0,QhR none 0 0,QhR none 0 0,QhR none 0 0] 27)).alloc (QhS #[QhR none 0 0,QhR none 0 0,QhR none 0 0,QhR none 0 0] 27)):=((Below.refl _ _).alloc (QhU _) _).alloc (by simp) _;have d0:=(Dw.start hr).grow hA;have br0:Blk ((w.alloc (QhS #[QhR none 0 0,QhR none 0 0,QhR none 0 0,QhR none 0 0] 27)).alloc (QhS #[QhR none 0 0,QhR none 0 0,QhR none 0 0,QhR none 0 0] 27)) w.heap.size [QhR none 0 0,QhR none 0 0,QhR none 0 0,QhR none 0 0] 27:=(Blk.new w _ _).alloc _
 have bh0:Blk ((w.alloc (QhS #[QhR none 0 0,QhR none 0 0,QhR none 0 0,QhR none 0 0] 27)).alloc (QhS #[QhR none 0 0,QhR none 0 0,QhR none 0 0,QhR none 0 0] 27)) (w.heap.size+1) [QhR none 0 0,QhR none 0 0,QhR none 0 0,QhR none 0 0] 27:=by
  have:=Blk.new (w.alloc (QhS #[QhR none 0 0,QhR none 0 0,QhR none 0 0,QhR none 0 0] 27)) [QhR none 0 0,QhR none 0 0,QhR none 0 0,QhR none 0 0] 27;simpa using this
 go_enter (Cut.func_of Tryz.func105 rfl),Tryz.ntmps105;go_upto_region 2 with fail;generalize ((w.alloc (QhS #[QhR none 0 0,QhR none 0 0,QhR none 0 0,QhR none 0 0] 27)).alloc (QhS #[QhR none 0 0,QhR none 0 0,QhR none 0 0,QhR none 0 0] 27))=W0 at *;have c1:=QK g cd k 4 W0 hc d0.rd hk (by omega);go_wp2_with fail;refine c1.mono ?_;rintro e w1 ⟨z,rfl,hz,hz4,-,hP⟩;have hz4':=hz4 (by omega);have q1:BsW w g cd (k+1) 0 none 0 w1:=⟨d0.pick hP,br0.grown hP.gb (by have:=d0.gw;simp;omega),bh0.grown hP.gb (by have:=d0.gw;simp;omega),U0 _ _⟩;clear c1 hP d0 br0 bh0 hA hz4;go_wp2;go_loopw [4] (fun i wr=>∃(j m c:Nat) (a:Option Addr),i=.int .i64 j∧j+m≤6∧BsW w g cd (k+1) m a c wr) (fun i _=>(intOf i).toNat)
 case atStart=>exact⟨(3+z).toNat,0,0,none,by go_num,by omega,q1⟩
 case round=>
  clear q1;obtain⟨j,m,c,a,rfl,hjm,q⟩:=hrel;obtain⟨x0,x1,x2,x3⟩:=Qb q.bh;by_cases hj:0<j
  ·have hjb:decide ((j:Int)>0)=true:=by simpa using hj
   have hvA:(wr.alloc (QhS #[QhT .i64 (-1)] 3)).ownsRow w.heap.size 3 1 (.slice a m c) m ((QhV m (-1)).map (QhT .i64)):=by
    have:=World.ownsRow.alloc q.own (QhS #[QhT .i64 (-1)] 3);simpa using this
   have hA:Below wr.heap.size wr (wr.alloc (QhS #[QhT .i64 (-1)] 3)):=(Below.refl _ _).alloc (QhU _) _;have dA:=q.dw.grow hA;have brA:=q.br.below hA q.br.lt;have bhA:=q.bh.below hA q.bh.lt;have hsz:=q.dw.gb.size;have hsA:w.heap.size≤(wr.alloc (QhS #[QhT .i64 (-1)] 3)).heap.size:=Nat.le_trans hsz hA.size;go_wp2_with (at_builtin;refine wpList_append_own_at _ rfl _ _ 24 rfl w.heap.size 3 i0 (.int .i64 0) 1 8 ((Cut.under_eq 24).trans Tryz.underlying24) hi0 hz0 hz1 hz2 rfl (by decide) _ _ _ rfl hvA ⟨wr.heap.size,0,none⟩ 1 1 [.int .i64 (-1)] rfl rfl (cell_one_new _ _ _) ?c2 ?c3 ?c4 hsA ?_)
   case c2=>intro u hu;simp at hu;subst hu;rfl
   case c3=>unfold maxLen;omega
   case c4=>omega
   intro v' w2 hown2 hgr _ _
   have hown':Qa w2 w.heap.size v' (QhV (m+1) (-1)):=by
    unfold Qa;rw[List.replicate_succ'];simpa using hown2
   obtain⟨va,vc,rfl,-⟩:=hown'.form
   have hne:∀ {B:Nat} {cs:List Value},Blk (wr.alloc (QhS #[QhT .i64 (-1)] 3)) B cs 27→(QhR a m c).ownBlock≠some B:=fun hb=>by
    have ho:Qa (wr.alloc (QhS #[QhT .i64 (-1)] 3)) w.heap.size (.slice a m c) (QhV m (-1)):=q.own.below hA (QhU _);exact ho.ne hb (by decide)
   have d2:=dA.step hgr (fun j e=>(World.ownsRow.lt hvA j e).1);have br2:=brA.grown hgr (hne brA);have bh2:=bhA.grown hgr (hne bhA);clear hne hvA hA dA brA bhA hown2 hgr x0 x1 x2 x3;simp only[List.length_replicate]at hown'⊢;obtain⟨x0,x1,x2,x3⟩:=Qb bh2;have f1:=bh2.free 1;have q2:BsW w g cd (k+1) (m+1) va vc (w2.setCell ⟨w.heap.size+1,1,none⟩ (.slice va (m+1) vc)):=⟨d2.set (by omega) 1 _,br2.other _ _ (by simp),bh2.store 1 _,Qm hown' (Qf.set bh2 1 _) (by decide)⟩;go_wp2;go_roundw
   case rel=>exact⟨j-1,m+1,vc,va,by go_num,by omega,q2⟩
   case measure=>simp[intOf];omega
  ·have hj0:j=0:=by omega
   subst hj0;obtain⟨kq,bq⟩:=QR q.br (.slice none 0 0) (.slice a m c) (.slice none 0 0) (.slice none 0 0);have dq:=q.dw.sets4 (QhU _) (.slice none 0 0) (.slice a m c) (.slice none 0 0) (.slice none 0 0);have hl:(QhV m (-1:Int)).length=m:=List.length_replicate;have oq:=Qgh (rs:=QhV m (-1)) (by rw[hl];exact Qm q.own kq (by decide));have f:=Qo q.br;obtain⟨f0,f1,f2,f3⟩:=f;obtain⟨y0,y1,y2,y3⟩:=Qb q.br;obtain⟨z0,z1,z2,z3⟩:=Qb bq;have ok:=Qgg a c m (by omega);clear kq bq q;go_wp2;refine bodyPost_ret (v:=(Jg a c (QhV m (-1))).v) ?_ rfl ⟨_,rfl,ok,oq,dq⟩;simp[results,Tryz.results105,go_sem,z0,z1,z2,z3,Hp.v,Jg]
end
end Go.Proofs.YtcpnkpogebjieaaGreat
