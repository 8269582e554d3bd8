/- The specification's own drawing: a heap with much that is watched. -/
import Derived.Deep.LoopGhost
import Derived.Test.YtcpnkpogebjieaaGreatS48Ej
open Go.Value renaming slice→QhR,int→QhS,string→QhU,ownBlock→QhW
open Go.Obj renaming cells→QhT
open Nat renaming le_refl→QhV
set_option maxHeartbeats 1600000
set_option maxRecDepth 100000
namespace Go.Proofs.YtcpnkpogebjieaaGreat
section
open Go.RowKit
theorem Kd {x:Int}(h0:-9223372036854775808≤x)(h1:x<9223372036854775808):IntKind.i64.wrap x=x:=by
 simp[IntKind.wrap,IntKind.bits,IntKind.signed];omega
def YW (a b:Nat):List Ob:=[⟨4,⟨#[]⟩,none,0,[]⟩,⟨1,⟨#[97]⟩,none,0,[]⟩,⟨2,⟨#[]⟩,some ⟨a,0,none⟩,2,[1,3]⟩,⟨4,⟨#[]⟩,none,0,[]⟩,⟨3,⟨#[]⟩,some ⟨b,0,none⟩,2,[1,2]⟩]
structure MnW (w:World) (g:Nat) (cd:Cd) (k:Int) (r1:Int) (wa:Option Addr) (wc:Nat) (ws:List (Int×Int)) (da:Option Addr) (dc:Nat) (ds:List (Int×Int)) (W:World):Prop where
 dw:Dw w g cd k W
 br:Blk W w.heap.size [QhR none 0 0,QhR none 0 0,QhR none 0 0,QhR none 0 0] 27
 b1:Blk W (w.heap.size+1) [QhS .i64 0,QhS .i64 r1] 3
 b2:Blk W (w.heap.size+1+1) [QhS .i64 1,QhS .i64 3] 3
 b3:Blk W (w.heap.size+1+1+1) [QhS .i64 1,QhS .i64 2] 3
 b4:Blk W (w.heap.size+1+1+1+1) [.int .i64 4,.string ⟨#[]⟩,.slice none 0 0,.int .i64 1,.string ⟨#[97]⟩,.slice none 0 0,.int .i64 2,.string ⟨#[]⟩,.slice (some ⟨w.heap.size+1+1,0,none⟩) 2 2,.int .i64 4,.string ⟨#[]⟩,.slice none 0 0,.int .i64 3,.string ⟨#[]⟩,.slice (some ⟨w.heap.size+1+1+1,0,none⟩) 2 2] 37
 bh:Blk W (w.heap.size+1+1+1+1+1) [QhR (some ⟨w.heap.size+1+1+1+1,0,none⟩) 5 5,QhR (some ⟨w.heap.size+1,0,none⟩) 2 2,QhR wa ws.length wc,QhR da ds.length dc] 27
 ow:Qe W w.heap.size (.slice wa ws.length wc) ws
 od:Qe W w.heap.size (.slice da ds.length dc) ds
 ap:ZM (.slice wa ws.length wc) (.slice da ds.length dc)
section
variable {w:World} {g:Nat} {cd:Cd} {k:Int} {r1:Int} {wa:Option Addr} {wcc:Nat} {ws:List (Int×Int)} {da:Option Addr} {dc:Nat} {ds:List (Int×Int)} {W W':World}
theorem MnW.grow (d:MnW w g cd k r1 wa wcc ws da dc ds W)(hb:Below W.heap.size W W'):MnW w g cd k r1 wa wcc ws da dc ds W':=
 ⟨d.dw.grow hb,d.br.below hb d.br.lt,d.b1.below hb d.b1.lt,d.b2.below hb d.b2.lt,d.b3.below hb d.b3.lt,d.b4.below hb d.b4.lt,d.bh.below hb d.bh.lt,d.ow.below hb (QhV _),d.od.below hb (QhV _),d.ap⟩
theorem MnW.pick {k':Int}(d:MnW w g cd k r1 wa wcc ws da dc ds W)(hp:ZO g cd k' W W'):MnW w g cd k' r1 wa wcc ws da dc ds W':=by
 have:=d.dw.gw;exact⟨d.dw.pick hp,d.br.grown hp.gb (by simp;omega),d.b1.grown hp.gb (by simp;omega),d.b2.grown hp.gb (by simp;omega),d.b3.grown hp.gb (by simp;omega),d.b4.grown hp.gb (by simp;omega),d.bh.grown hp.gb (by simp;omega),YL d.ow hp.gb this,YL d.od hp.gb this,d.ap⟩
theorem MnW.root (d:MnW w g cd k r1 wa wcc ws da dc ds W)(r:Int):MnW w g cd k r wa wcc ws da dc ds (W.setCell ⟨w.heap.size+1,1,none⟩ (.int .i64 r)):=
 ⟨d.dw.set (by omega) 1 _,d.br.other _ _ (by dsimp only;omega),d.b1.store 1 _,d.b2.other _ _ (by dsimp only;omega),d.b3.other _ _ (by dsimp only;omega),d.b4.other _ _ (by dsimp only;omega),d.bh.other _ _ (by dsimp only;omega),Qm d.ow (Qf.set d.b1 1 _) (by decide),Qm d.od (Qf.set d.b1 1 _) (by decide),d.ap⟩
theorem MnW.ready {W2:World}{o:Obj}{g' c':Nat}{n:Nat}{vs:List Value}(p:Int×Int)(d:MnW w g cd k r1 wa wcc ws da dc ds W)(hn:n=(ds++ [p]).length)(hvs:vs=(ds++ [p]).flatMap wc)(hown:W2.ownsRow w.heap.size 40 2 (.slice (some ⟨g',0,none⟩) n c') n vs)(hg:(W.alloc o).grownBy W2 (QhR da ds.length dc).ownBlock)(hat:(QhR da ds.length dc).ownBlock=some g'∨g'=W.heap.size+1):
 (W2.cell? ⟨w.heap.size+1+1+1+1+1,3,none⟩=some (.slice da ds.length dc)∧W2.frozen? ⟨w.heap.size+1+1+1+1+1,3,none⟩=false)∧MnW w g cd k r1 wa wcc ws (some ⟨g',0,none⟩) c' (ds++ [p]) (W2.setCell ⟨w.heap.size+1+1+1+1+1,3,none⟩ (.slice (some ⟨g',0,none⟩) n c')):=by
 subst hn hvs;have dA:=d.grow (W':=W.alloc o) ((Below.refl _ _).alloc (QhV _) _);have hs:=dA.od.lt;have gw:=d.dw.gw;have bh2:=dA.bh.grown hg (Z7 dA.bh dA.od (by decide));have br2:=dA.br.grown hg (Z7 dA.br dA.od (by decide));have b12:=dA.b1.grown hg (Z7 dA.b1 dA.od (by decide));have b22:=dA.b2.grown hg (Z7 dA.b2 dA.od (by decide));have b32:=dA.b3.grown hg (Z7 dA.b3 dA.od (by decide));have b42:=dA.b4.grown hg (Z7 dA.b4 dA.od (by decide));have dw2:=dA.dw.step hg (fun j e=>(hs j e).1);have ow2:Qe W2 w.heap.size (.slice wa ws.length wcc) ws:=YK dA.ow hg dA.ap;have kq:=Qf.set bh2 3 (.slice (some ⟨g',0,none⟩) (ds++ [p]).length c');refine⟨⟨bh2.cell 3,bh2.free 3⟩,dw2.set (by omega) 3 _,br2.other _ _ (by dsimp only;omega),b12.other _ _ (by dsimp only;omega),b22.other _ _ (by dsimp only;omega),b32.other _ _ (by dsimp only;omega),b42.other _ _ (by dsimp only;omega),bh2.store 3 _,Qm ow2 kq (by decide),Qm hown kq (by decide),fun j e1 e2=>?_⟩;simp[QhW]at e2;subst e2;rcases hat with e|e
 ·exact d.ap _ e1 e
 ·have:=(d.ow.lt _ e1).2;omega
theorem MnW.watch {W2:World}{o:Obj}{g' c':Nat}{n:Nat}{vs:List Value}(p:Int×Int)(d:MnW w g cd k r1 wa wcc ws da dc ds W)(hn:n=(ws++ [p]).length)(hvs:vs=(ws++ [p]).flatMap wc)(hown:W2.ownsRow w.heap.size 40 2 (.slice (some ⟨g',0,none⟩) n c') n vs)(hg:(W.alloc o).grownBy W2 (QhR wa ws.length wcc).ownBlock)(hat:(QhR wa ws.length wcc).ownBlock=some g'∨g'=W.heap.size+1):
 (W2.cell? ⟨w.heap.size+1+1+1+1+1,2,none⟩=some (.slice wa ws.length wcc)∧W2.frozen? ⟨w.heap.size+1+1+1+1+1,2,none⟩=false)∧MnW w g cd k r1 (some ⟨g',0,none⟩) c' (ws++ [p]) da dc ds (W2.setCell ⟨w.heap.size+1+1+1+1+1,2,none⟩ (.slice (some ⟨g',0,none⟩) n c')):=by
 subst hn hvs;have dA:=d.grow (W':=W.alloc o) ((Below.refl _ _).alloc (QhV _) _);have hs:=dA.ow.lt;have gw:=d.dw.gw;have bh2:=dA.bh.grown hg (Z7 dA.bh dA.ow (by decide));have br2:=dA.br.grown hg (Z7 dA.br dA.ow (by decide));have b12:=dA.b1.grown hg (Z7 dA.b1 dA.ow (by decide));have b22:=dA.b2.grown hg (Z7 dA.b2 dA.ow (by decide));have b32:=dA.b3.grown hg (Z7 dA.b3 dA.ow (by decide));have b42:=dA.b4.grown hg (Z7 dA.b4 dA.ow (by decide));have dw2:=dA.dw.step hg (fun j e=>(hs j e).1);have od2:Qe W2 w.heap.size (.slice da ds.length dc) ds:=YK dA.od hg dA.ap.symm;have kq:=Qf.set bh2 2 (.slice (some ⟨g',0,none⟩) (ws++ [p]).length c');refine⟨⟨bh2.cell 2,bh2.free 2⟩,dw2.set (by omega) 2 _,br2.other _ _ (by dsimp only;omega),b12.other _ _ (by dsimp only;omega),b22.other _ _ (by dsimp only;omega),b32.other _ _ (by dsimp only;omega),b42.other _ _ (by dsimp only;omega),bh2.store 2 _,Qm hown kq (by decide),Qm od2 kq (by decide),fun j e2 e1=>?_⟩;simp[QhW]at e2;subst e2;rcases hat with e|e
 ·exact d.ap _ e e1
 ·have:=(d.od.lt _ e1).2;omega
def mnH (n:Nat)(r1:Int)(wa:Option Addr)(wc:Nat)(ws:List (Int×Int))(da:Option Addr)(dc:Nat)(ds:List (Int×Int)):Hp:={oa:=some ⟨n+1+1+1+1,0,none⟩,ocap:=5,os:=YW (n+1+1) (n+1+1+1),ra:=some ⟨n+1,0,none⟩,rcap:=2,rs:=[0,r1],wa:=wa,wcap:=wc,ws:=ws,da:=da,dcap:=dc,ds:=ds}
theorem Kq {W:World}{B:Nat}{zs:List Int}(h:Blk W B (zs.map (QhS .i64)) 3):Qi W (some ⟨B,0,none⟩) zs:=h.segI
theorem Uq {i:Nat}(h:i<5):i=0∨i=1∨i=2∨i=3∨i=4:=by omega
theorem PD (W:World):Qi W none []:=fun h=>absurd h (by decide)
theorem Qfr {n g B:Nat}{W:World}{r1:Int}{wa:Option Addr}{wcc:Nat}{ws:List (Int×Int)}{da:Option Addr}{dc:Nat}{ds:List (Int×Int)}(hg:g<n)(ow:Qe W B (.slice wa ws.length wcc) ws)(od:Qe W B (.slice da ds.length dc) ds)(hB:g<B):QM (mnH n r1 wa wcc ws da dc ds) (some g):=by
 refine⟨fun _ x e=>?_,fun i hi _ x e=>?_,fun _ x e=>?_,Y3 ow hB,Y3 od hB⟩
 ·simp only[mnH,Option.some.injEq]at e;subst e;simp;omega
 ·rcases Uq hi with rfl|rfl|rfl|rfl|rfl<;>simp[mnH,YW]at e<;>subst e<;>simp<;>omega
 ·simp only[mnH,Option.some.injEq]at e;subst e;simp;omega
theorem Qfs {n:Nat}(b1:Blk W (n+1) [QhS .i64 0,QhS .i64 r1] 3)(b2:Blk W (n+1+1) [QhS .i64 1,QhS .i64 3] 3)(b3:Blk W (n+1+1+1) [QhS .i64 1,QhS .i64 2] 3)
 (hb:Blk W (n+1+1+1+1) [.int .i64 4,.string ⟨#[]⟩,.slice none 0 0,.int .i64 1,.string ⟨#[97]⟩,.slice none 0 0,.int .i64 2,.string ⟨#[]⟩,.slice (some ⟨n+1+1,0,none⟩) 2 2,.int .i64 4,.string ⟨#[]⟩,.slice none 0 0,.int .i64 3,.string ⟨#[]⟩,.slice (some ⟨n+1+1+1,0,none⟩) 2 2] 37)
 {B:Nat}(ow:Qe W B (.slice wa ws.length wcc) ws)(od:Qe W B (.slice da ds.length dc) ds)(hl:ws.length+ds.length≤100):Fit W (mnH n r1 wa wcc ws da dc ds):=by
 refine⟨⟨⟨fun _=>⟨_,0,rfl,hb.lt,fun i hi=>?_⟩,fun i hi=>?_⟩,Kq (zs:=[0,r1]) b1,?_,?_⟩,⟨by simp[mnH,YW],fun i hi=>?_,by simp[mnH],by simp[mnH];omega,by simp[mnH];omega⟩,fun i hi=>?_,fun i hi=>?_⟩
 ·rcases Uq hi with rfl|rfl|rfl|rfl|rfl
  ·exact⟨hb.cell 0,hb.cell 1,hb.cell 2⟩
  ·exact⟨hb.cell 3,hb.cell 4,hb.cell 5⟩
  ·exact⟨hb.cell 6,hb.cell 7,hb.cell 8⟩
  ·exact⟨hb.cell 9,hb.cell 10,hb.cell 11⟩
  ·exact⟨hb.cell 12,hb.cell 13,hb.cell 14⟩
 ·rcases Uq hi with rfl|rfl|rfl|rfl|rfl
  ·exact PD W
  ·exact PD W
  ·exact Kq (zs:=[1,3]) b2
  ·exact PD W
  ·exact Kq (zs:=[1,2]) b3
 ·obtain⟨a,cap,e,hs,_⟩:=ow.form;simp only[Value.slice.injEq]at e;show Qz W wa ws;rw[e.1];exact hs
 ·obtain⟨a,cap,e,hs,_⟩:=od.form;simp only[Value.slice.injEq]at e;show Qz W da ds;rw[e.1];exact hs
 ·rcases Uq hi with rfl|rfl|rfl|rfl|rfl<;>simp[mnH,YW]
 ·rcases Uq hi with rfl|rfl|rfl|rfl|rfl<;>simp[mnH,YW,maxLen]<;>decide
 ·rcases Uq hi with rfl|rfl|rfl|rfl|rfl<;>simp[mnH,YW]
end
theorem MnW.start {w:World}{g:Nat}{cd:Cd}{k:Int}(hr:Rd w g cd k):MnW w g cd k (-1) none 0 [] none 0 [] ((((((w.alloc (QhT #[QhR none 0 0,QhR none 0 0,QhR none 0 0,QhR none 0 0] 27)).alloc (QhT #[QhS .i64 0,QhS .i64 (-1)] 3)).alloc (QhT #[QhS .i64 1,QhS .i64 3] 3)).alloc (QhT #[QhS .i64 1,QhS .i64 2] 3)).alloc (QhT #[QhS .i64 4,QhU ⟨#[]⟩,QhR none 0 0,QhS .i64 1,QhU ⟨#[97]⟩,QhR none 0 0,QhS .i64 2,QhU ⟨#[]⟩,QhR (some ⟨w.heap.size+1+1,0,none⟩) 2 2,QhS .i64 4,QhU ⟨#[]⟩,QhR none 0 0,QhS .i64 3,QhU ⟨#[]⟩,QhR (some ⟨w.heap.size+1+1+1,0,none⟩) 2 2] 37)).alloc (QhT #[QhR (some ⟨w.heap.size+1+1+1+1,0,none⟩) 5 5,QhR (some ⟨w.heap.size+1,0,none⟩) 2 2,QhR none 0 0,QhR none 0 0] 27)):=by
 have hA:Below w.heap.size w ((((((w.alloc (QhT #[QhR none 0 0,QhR none 0 0,QhR none 0 0,QhR none 0 0] 27)).alloc (QhT #[QhS .i64 0,QhS .i64 (-1)] 3)).alloc (QhT #[QhS .i64 1,QhS .i64 3] 3)).alloc (QhT #[QhS .i64 1,QhS .i64 2] 3)).alloc (QhT #[QhS .i64 4,QhU ⟨#[]⟩,QhR none 0 0,QhS .i64 1,QhU ⟨#[97]⟩,QhR none 0 0,QhS .i64 2,QhU ⟨#[]⟩,QhR (some ⟨w.heap.size+1+1,0,none⟩) 2 2,QhS .i64 4,QhU ⟨#[]⟩,QhR none 0 0,QhS .i64 3,QhU ⟨#[]⟩,QhR (some ⟨w.heap.size+1+1+1,0,none⟩) 2 2] 37)).alloc (QhT #[QhR (some ⟨w.heap.size+1+1+1+1,0,none⟩) 5 5,QhR (some ⟨w.heap.size+1,0,none⟩) 2 2,QhR none 0 0,QhR none 0 0] 27)):=((((((Below.refl _ _).alloc (QhV _) _).alloc (by simp) _).alloc (by simp;omega) _).alloc (by simp;omega) _).alloc (by simp;omega) _).alloc (by simp;omega) _;refine⟨(Dw.start hr).grow hA,?_,?_,?_,?_,?_,?_,⟨rfl,Or.inl ⟨rfl,rfl⟩⟩,⟨rfl,Or.inl ⟨rfl,rfl⟩⟩,fun j e=>by simp[QhW]at e⟩
 ·have:=(Blk.new w [QhR none 0 0,QhR none 0 0,QhR none 0 0,QhR none 0 0] 27).alloc (QhT #[QhS .i64 0,QhS .i64 (-1)] 3) |>.alloc (QhT #[QhS .i64 1,QhS .i64 3] 3) |>.alloc (QhT #[QhS .i64 1,QhS .i64 2] 3) |>.alloc (QhT #[QhS .i64 4,QhU ⟨#[]⟩,QhR none 0 0,QhS .i64 1,QhU ⟨#[97]⟩,QhR none 0 0,QhS .i64 2,QhU ⟨#[]⟩,QhR (some ⟨w.heap.size+1+1,0,none⟩) 2 2,QhS .i64 4,QhU ⟨#[]⟩,QhR none 0 0,QhS .i64 3,QhU ⟨#[]⟩,QhR (some ⟨w.heap.size+1+1+1,0,none⟩) 2 2] 37) |>.alloc (QhT #[QhR (some ⟨w.heap.size+1+1+1+1,0,none⟩) 5 5,QhR (some ⟨w.heap.size+1,0,none⟩) 2 2,QhR none 0 0,QhR none 0 0] 27);simpa using this
 ·have:=(Blk.new (w.alloc (QhT #[QhR none 0 0,QhR none 0 0,QhR none 0 0,QhR none 0 0] 27)) [QhS .i64 0,QhS .i64 (-1)] 3).alloc (QhT #[QhS .i64 1,QhS .i64 3] 3) |>.alloc (QhT #[QhS .i64 1,QhS .i64 2] 3) |>.alloc (QhT #[QhS .i64 4,QhU ⟨#[]⟩,QhR none 0 0,QhS .i64 1,QhU ⟨#[97]⟩,QhR none 0 0,QhS .i64 2,QhU ⟨#[]⟩,QhR (some ⟨w.heap.size+1+1,0,none⟩) 2 2,QhS .i64 4,QhU ⟨#[]⟩,QhR none 0 0,QhS .i64 3,QhU ⟨#[]⟩,QhR (some ⟨w.heap.size+1+1+1,0,none⟩) 2 2] 37) |>.alloc (QhT #[QhR (some ⟨w.heap.size+1+1+1+1,0,none⟩) 5 5,QhR (some ⟨w.heap.size+1,0,none⟩) 2 2,QhR none 0 0,QhR none 0 0] 27);simpa using this
 ·have:=(Blk.new ((w.alloc (QhT #[QhR none 0 0,QhR none 0 0,QhR none 0 0,QhR none 0 0] 27)).alloc (QhT #[QhS .i64 0,QhS .i64 (-1)] 3)) [QhS .i64 1,QhS .i64 3] 3).alloc (QhT #[QhS .i64 1,QhS .i64 2] 3) |>.alloc (QhT #[QhS .i64 4,QhU ⟨#[]⟩,QhR none 0 0,QhS .i64 1,QhU ⟨#[97]⟩,QhR none 0 0,QhS .i64 2,QhU ⟨#[]⟩,QhR (some ⟨w.heap.size+1+1,0,none⟩) 2 2,QhS .i64 4,QhU ⟨#[]⟩,QhR none 0 0,QhS .i64 3,QhU ⟨#[]⟩,QhR (some ⟨w.heap.size+1+1+1,0,none⟩) 2 2] 37) |>.alloc (QhT #[QhR (some ⟨w.heap.size+1+1+1+1,0,none⟩) 5 5,QhR (some ⟨w.heap.size+1,0,none⟩) 2 2,QhR none 0 0,QhR none 0 0] 27);simpa using this
 ·have:=(Blk.new (((w.alloc (QhT #[QhR none 0 0,QhR none 0 0,QhR none 0 0,QhR none 0 0] 27)).alloc (QhT #[QhS .i64 0,QhS .i64 (-1)] 3)).alloc (QhT #[QhS .i64 1,QhS .i64 3] 3)) [QhS .i64 1,QhS .i64 2] 3).alloc (QhT #[QhS .i64 4,QhU ⟨#[]⟩,QhR none 0 0,QhS .i64 1,QhU ⟨#[97]⟩,QhR none 0 0,QhS .i64 2,QhU ⟨#[]⟩,QhR (some ⟨w.heap.size+1+1,0,none⟩) 2 2,QhS .i64 4,QhU ⟨#[]⟩,QhR none 0 0,QhS .i64 3,QhU ⟨#[]⟩,QhR (some ⟨w.heap.size+1+1+1,0,none⟩) 2 2] 37) |>.alloc (QhT #[QhR (some ⟨w.heap.size+1+1+1+1,0,none⟩) 5 5,QhR (some ⟨w.heap.size+1,0,none⟩) 2 2,QhR none 0 0,QhR none 0 0] 27);simpa using this
 ·have:=(Blk.new ((((w.alloc (QhT #[QhR none 0 0,QhR none 0 0,QhR none 0 0,QhR none 0 0] 27)).alloc (QhT #[QhS .i64 0,QhS .i64 (-1)] 3)).alloc (QhT #[QhS .i64 1,QhS .i64 3] 3)).alloc (QhT #[QhS .i64 1,QhS .i64 2] 3)) [QhS .i64 4,QhU ⟨#[]⟩,QhR none 0 0,QhS .i64 1,QhU ⟨#[97]⟩,QhR none 0 0,QhS .i64 2,QhU ⟨#[]⟩,QhR (some ⟨w.heap.size+1+1,0,none⟩) 2 2,QhS .i64 4,QhU ⟨#[]⟩,QhR none 0 0,QhS .i64 3,QhU ⟨#[]⟩,QhR (some ⟨w.heap.size+1+1+1,0,none⟩) 2 2] 37).alloc (QhT #[QhR (some ⟨w.heap.size+1+1+1+1,0,none⟩) 5 5,QhR (some ⟨w.heap.size+1,0,none⟩) 2 2,QhR none 0 0,QhR none 0 0] 27);simpa using this
 ·have:=(Blk.new (((((w.alloc (QhT #[QhR none 0 0,QhR none 0 0,QhR none 0 0,QhR none 0 0] 27)).alloc (QhT #[QhS .i64 0,QhS .i64 (-1)] 3)).alloc (QhT #[QhS .i64 1,QhS .i64 3] 3)).alloc (QhT #[QhS .i64 1,QhS .i64 2] 3)).alloc (QhT #[QhS .i64 4,QhU ⟨#[]⟩,QhR none 0 0,QhS .i64 1,QhU ⟨#[97]⟩,QhR none 0 0,QhS .i64 2,QhU ⟨#[]⟩,QhR (some ⟨w.heap.size+1+1,0,none⟩) 2 2,QhS .i64 4,QhU ⟨#[]⟩,QhR none 0 0,QhS .i64 3,QhU ⟨#[]⟩,QhR (some ⟨w.heap.size+1+1+1,0,none⟩) 2 2] 37)) [QhR (some ⟨w.heap.size+1+1+1+1,0,none⟩) 5 5,QhR (some ⟨w.heap.size+1,0,none⟩) 2 2,QhR none 0 0,QhR none 0 0] 27);simpa using this
theorem Qe2 (g:Nat)(cd:Cd)(k:Int)(w:World)(hc:J5 cd)(hr:Rd w g cd k)(hk:k+2000<900000):
 Calls Cut.prog 74 #[.pointer (some ⟨g,0,none⟩)] w fun en w'=>∃(y:Hp) (k':Int),en=.returned y.v∧(∀W,Qf 27 w' W→Fit W y)∧QM y (some g)∧Dw w g cd k' w'∧k'≤k+1000:=by
 obtain⟨i0,hi0,hz0,hz1,hz2⟩:=info_parts Jr;have d0:=MnW.start hr
 have hone:∀p q:Int,∀u∈wc (p,q),u.oneCell'=true:=fun p q u hu=>by
  simp[wc]at hu;rcases hu with rfl|rfl<;>rfl
 go_enter (Cut.func_of Tryz.func74 rfl),Tryz.ntmps74;go_upto_region 2 with fail;generalize ((((((w.alloc (QhT #[QhR none 0 0,QhR none 0 0,QhR none 0 0,QhR none 0 0] 27)).alloc (QhT #[QhS .i64 0,QhS .i64 (-1)] 3)).alloc (QhT #[QhS .i64 1,QhS .i64 3] 3)).alloc (QhT #[QhS .i64 1,QhS .i64 2] 3)).alloc (QhT #[QhS .i64 4,QhU ⟨#[]⟩,QhR none 0 0,QhS .i64 1,QhU ⟨#[97]⟩,QhR none 0 0,QhS .i64 2,QhU ⟨#[]⟩,QhR (some ⟨w.heap.size+1+1,0,none⟩) 2 2,QhS .i64 4,QhU ⟨#[]⟩,QhR none 0 0,QhS .i64 3,QhU ⟨#[]⟩,QhR (some ⟨w.heap.size+1+1+1,0,none⟩) 2 2] 37)).alloc (QhT #[QhR (some ⟨w.heap.size+1+1+1+1,0,none⟩) 5 5,QhR (some ⟨w.heap.size+1,0,none⟩) 2 2,QhR none 0 0,QhR none 0 0] 27))=W0 at *;have c1:=QK g cd k 2 W0 hc d0.dw.rd (by omega) (by omega);go_wp2_with fail;refine c1.mono ?_;rintro en w1 ⟨z,rfl,hz,-,-,hP⟩;have d1:=d0.pick hP;clear c1 hP d0;go_upto_if 17 with fail;go_cut []from 18 to 22 (fun wx=>∃(k' r1:Int),MnW w g cd k' r1 none 0 [] none 0 [] wx∧k'≤k+2)
 case first=>
  by_cases hz0:z=0
  ·subst hz0;have d1d:=d1.grow (W':=w1.drew) ((Below.refl _ _).drew);have c1:=QK g cd (k+1) 5 w1.drew hc d1d.dw.rd (by omega) (by omega);have HN:Hid (∀ {w2:World},ZO g cd (k+1+1) w1.drew w2→MnW w g cd (k+1+1) (-1) none 0 [] none 0 [] w2):=fun hP=>d1d.pick hP;obtain⟨x0,x1,x2,x3⟩:=Qb d1.bh;clear d1 d1d;go_wp2_with fail;go_region_law (go_simp;go_at_call 50;refine c1.mono ?_;rintro en w2 ⟨z,rfl,hz,-,-,hP⟩;have d2:=HN.out hP;obtain⟨y0,y1,y2,y3⟩:=Qb d2.bh;have r0:=d2.b1.cell 1;have f0:=d2.b1.free 1;simp only[List.getElem?_cons_zero,List.getElem?_cons_succ]at r0)
   all_goals
    have d3:=d2.root z;clear d2;go_wp2;go_meet
    case rel=>exact⟨_,_,d3,by omega⟩
  ·have hzb:(z ==0)=false:=by simpa using hz0
   go_wp2;go_meet
   case rel=>exact⟨_,_,d1,by omega⟩
 case rest=>
 clear d1;obtain⟨k1,r1,d,hk1⟩:=hcut;have c1:=QK g cd k1 13 _ hc d.dw.rd (by omega) (by omega);go_wp2_with fail;refine c1.mono ?_;rintro en w2 ⟨n,rfl,hn,hn',-,hP⟩;have d2:=d.pick hP;have hn':=hn' (by omega);clear c1 hP d;go_wp2;go_loopw [4] (fun i wr=>∃(j dc:Nat) (da:Option Addr) (ds:List (Int×Int)) (k':Int),i=.int .i64 j∧ds.length+j≤12∧k'+2*j≤k+30∧MnW w g cd k' r1 none 0 [] da dc ds wr) (fun i _=>(intOf i).toNat)
 case atStart=>exact⟨n.toNat,0,none,[],k1+1,by go_num,by simp;omega,by omega,d2⟩
 case round=>
  clear d2;obtain⟨j,dc,da,ds,k',rfl,hj3,hkj,d⟩:=hrel;by_cases hj:0<j
  ·obtain⟨x0,x1,x2,x3⟩:=Qb d.bh;have hjb:decide (0<(j:Int))=true:=by simpa using hj
   have dd:=d.grow (W':=wr.drew) ((Below.refl _ _).drew);have c1:=QK g cd k' 2 wr.drew hc dd.dw.rd (by omega) (by omega);have HN:Hid (∀ {w2:World},ZO g cd (k'+1) wr.drew w2→MnW w g cd (k'+1) r1 none 0 [] da dc ds w2):=fun hP=>dd.pick hP;have hl1:ds.length+1≤maxLen:=by unfold maxLen;omega
   have hl2:(ds.length+1)*16≤140737488355328:=by omega
   have hk2:k'+1+1<1000000:=by omega
   clear d dd;go_wp2_with fail
   go_region_law (first
    |(refine step_append_lies _ rfl _ _ 25 rfl w.heap.size 40 i0 _ 2 16 ((Cut.under_eq 25).trans Tryz.underlying25) hi0 hz0 hz1 hz2 rfl (by decide) _ _ _ rfl (World.ownsRow.alloc d2.od (QhT #[QhS .i64 (IntKind.i64.wrap (3*z1)),QhS .i64 z2] 40)) ⟨w2.heap.size,0,none⟩ 1 1 (Go.Proofs.YtcpnkpogebjieaaGreat.wc (IntKind.i64.wrap (3*z1),z2)) rfl rfl (Yc (w:=w2) (IntKind.i64.wrap (3*z1),z2) 40) (hone _ _) (by decide) hl1 hl2 (Nat.le_trans d2.dw.gb.size (by simp)) _ rfl ?_;intro g' c' w3 hown3 hgr hat hlt3;obtain⟨⟨bx,bf⟩,d3⟩:=d2.ready (IntKind.i64.wrap (3*z1),z2) (by simp) (by simp) hown3 hgr (hat.imp id (fun e=>e.trans (by simp))))
    |(go_simp;go_at_call_of 50 (QhS .i64 2);refine c1.mono ?_;rintro en w1 ⟨z1,rfl,hp0,hp1,-,hP⟩;have hp2:=hp1 (by decide);clear hp1;have d1:=HN.out hP;obtain⟨y0,y1,y2,y3⟩:=Qb d1.bh)
    |(go_simp;go_at_call_of 50 (QhS .i64 5);refine(QK g cd (k'+1) 5 w1 hc d1.dw.rd hk2 (by decide)).mono ?_;rintro en w2 ⟨z2,rfl,hq0,-,-,hP2⟩;have d2:=d1.pick hP2;obtain⟨v0,v1,v2,v3⟩:=Qb d2.bh;have hqs:w.heap.size+1+1+1+1+1<w2.heap.size:=d2.bh.lt;have hqn:¬w2.heap.size=w.heap.size+1+1+1+1+1:=Nat.ne_of_gt hqs;have hqn':¬w.heap.size+1+1+1+1+1=w2.heap.size:=Nat.ne_of_lt hqs))
   all_goals
    clear c1 HN;go_wp2;go_roundw
    case rel=>exact⟨j-1,c',_,_,k'+1+1,by go_num,by simp;omega,by omega,d3⟩
    case measure=>simp[intOf];omega
  ·have hj0:j=0:=by omega
   subst hj0;go_wp2
   go_loopg [] (21-ds.length) (fun n wr=>∃(c':Nat) (a:Option Addr) (ws:List (Int×Int)) (k':Int),ws.length+ds.length+n=21∧k'+4*n≤k+500∧MnW w g cd k' r1 a c' ws da dc ds wr)
   case atStart=>exact⟨0,none,[],k',by simp;omega,by omega,d⟩
   case round=>
    clear d;obtain⟨c',a,ws,k',hln,hkn,d⟩:=hrel;obtain⟨x0,x1,x2,x3⟩:=Qb d.bh;have dd:=d.grow (W':=wr.drew) ((Below.refl _ _).drew);have c1:=QK g cd k' 3 wr.drew hc dd.dw.rd (by omega) (by decide);have HN:Hid (∀ {w2:World},ZO g cd (k'+1) wr.drew w2→MnW w g cd (k'+1) r1 a c' ws da dc ds w2):=fun hP=>dd.pick hP;have hk2:k'+1+1<1000000:=by omega
    clear d dd;go_wp2_with fail;go_region_held3 (fun(W':World)=>W'.cell? ⟨w.heap.size+1+1+1+1+1,2,none⟩=some (.slice a ws.length c')∧W'.cell? ⟨w.heap.size+1+1+1+1+1,3,none⟩=some (.slice da ds.length dc)) (first|(refine⟨?_,?_⟩<;>with_reducible assumption)|go_keep)
     (first
       |(go_at_call_of 50 (QhS .i64 3);refine c1.mono ?_;rintro en w1 ⟨z1,rfl,hp0,hp1,-,hP⟩;have hp2:=hp1 (by decide);clear hp1;have d1:=HN.out hP;obtain⟨y0,y1,y2,y3⟩:=Qb d1.bh)
       |(go_at_call_of 50 (QhS .i64 2);refine(QK g cd (k'+1) 2 w1 hc d1.dw.rd hk2 (by decide)).mono ?_;rintro en w2 ⟨z2,rfl,hq0,hq1,-,hP2⟩;have hq2:=hq1 (by decide);clear hq1;have d2:=d1.pick hP2;obtain⟨v0,v1,v2,v3⟩:=Qb d2.bh))
    have e1:IntKind.i64.wrap ((ws.length:Int)+(ds.length:Int))=(ws.length:Int)+ds.length:=Kd (by omega) (by omega);have e2:IntKind.i64.wrap (20-z1)=20-z1:=Kd (by omega) (by omega);have e3:IntKind.i64.wrap (20-z1+z2)=20-z1+z2:=Kd (by omega) (by omega);simp only[e1,e2,e3];clear c1 HN y0 y1 y2 y3 x0 x1 x2 x3;by_cases hlt:(ws.length:Int)+ds.length<20-z1+z2
    ·have hltb:decide ((ws.length:Int)+ds.length<20-z1+z2)=true:=by simpa using hlt
     have hgk:ws.length+ds.length<21:=by omega
     have dd:=d2.grow (W':=w2.drew) ((Below.refl _ _).drew);have c3:=QK g cd (k'+1+1) 2 w2.drew hc dd.dw.rd (by omega) (by decide);have HN2:Hid (∀ {w3:World},ZO g cd (k'+1+1+1) w2.drew w3→MnW w g cd (k'+1+1+1) r1 a c' ws da dc ds w3):=fun hP=>dd.pick hP;have hl1:ws.length+1≤maxLen:=by unfold maxLen;omega
     have hl2:(ws.length+1)*16≤140737488355328:=by omega
     have hk4:k'+1+1+1+1<1000000:=by omega
     clear d2 d1 dd e1 e2 e3 hP hP2;go_wp2_with fail
     go_region_law (first
      |(refine step_append_lies _ rfl _ _ 25 rfl w.heap.size 40 i0 _ 2 16 ((Cut.under_eq 25).trans Tryz.underlying25) hi0 hz0 hz1 hz2 rfl (by decide) _ _ _ rfl (World.ownsRow.alloc d4.ow (QhT #[QhS .i64 (IntKind.i64.wrap (3*z3)),QhS .i64 z4] 40)) ⟨w4.heap.size,0,none⟩ 1 1 (Go.Proofs.YtcpnkpogebjieaaGreat.wc (IntKind.i64.wrap (3*z3),z4)) rfl rfl (Yc (w:=w4) (IntKind.i64.wrap (3*z3),z4) 40) (hone _ _) (by decide) hl1 hl2 (Nat.le_trans d4.dw.gb.size (by simp)) _ rfl ?_;intro g' c5 w5 hown5 hgr hat hlt5;obtain⟨⟨bx,bf⟩,d5⟩:=d4.watch (IntKind.i64.wrap (3*z3),z4) (by simp) (by simp) hown5 hgr (hat.imp id (fun e=>e.trans (by simp))))
      |(go_simp;go_at_call_of 50 (QhS .i64 2);refine c3.mono ?_;rintro en w3 ⟨z3,rfl,-,-,-,hP3⟩;have d3:=HN2.out hP3;obtain⟨y0,y1,y2,y3⟩:=Qb d3.bh)
      |(go_simp;go_at_call_of 50 (QhS .i64 5);refine(QK g cd (k'+1+1+1) 5 w3 hc d3.dw.rd hk4 (by decide)).mono ?_;rintro en w4 ⟨z4,rfl,-,-,-,hP4⟩;have d4:=d3.pick hP4;obtain⟨v0,v1,v2,v3⟩:=Qb d4.bh;have hqs:w.heap.size+1+1+1+1+1<w4.heap.size:=d4.bh.lt;have hqn:¬w4.heap.size=w.heap.size+1+1+1+1+1:=Nat.ne_of_gt hqs;have hqn':¬w.heap.size+1+1+1+1+1=w4.heap.size:=Nat.ne_of_lt hqs))
     all_goals
      clear c3 HN2;go_wp2
      go_roundg (gk-1)
      case measure=>omega
      case rel=>exact⟨c5,_,_,k'+1+1+1+1,by simp;omega,by omega,d5⟩
    ·have hltb:decide ((ws.length:Int)+ds.length<20-z1+z2)=false:=by simpa using hlt
     obtain⟨x0,x1,x2,x3⟩:=Qb d2.bh;obtain⟨y0,y1,y2,y3⟩:=Qb d2.br;obtain⟨f0,f1,f2,f3⟩:=Qo d2.br;obtain⟨kq,bq⟩:=QR d2.br (.slice (some ⟨w.heap.size+1+1+1+1,0,none⟩) 5 5) (.slice (some ⟨w.heap.size+1,0,none⟩) 2 2) (.slice a ws.length c') (.slice da ds.length dc);have dq:=d2.dw.sets4 (R:=w.heap.size) (QhV _) (.slice (some ⟨w.heap.size+1+1+1+1,0,none⟩) 5 5) (.slice (some ⟨w.heap.size+1,0,none⟩) 2 2) (.slice a ws.length c') (.slice da ds.length dc)
     have hfq:=fun(W:World) (hK:Qf 27 ((((w2.setCell ⟨w.heap.size,0,none⟩ (.slice (some ⟨w.heap.size+1+1+1+1,0,none⟩) 5 5)).setCell ⟨w.heap.size,1,none⟩ (.slice (some ⟨w.heap.size+1,0,none⟩) 2 2)).setCell ⟨w.heap.size,2,none⟩ (.slice a ws.length c')).setCell ⟨w.heap.size,3,none⟩ (.slice da ds.length dc)) W)=>
      Qfs (W:=W) (r1:=r1) (kq.trans hK _ _ _ d2.b1 (by decide)) (kq.trans hK _ _ _ d2.b2 (by decide)) (kq.trans hK _ _ _ d2.b3 (by decide)) (kq.trans hK _ _ _ d2.b4 (by decide)) (Qm d2.ow (kq.trans hK) (by decide)) (Qm d2.od (kq.trans hK) (by decide)) (by omega)
     obtain⟨z0,z1,z2,z3⟩:=Qb bq;have hav:=Qfr (r1:=r1) d2.dw.gw d2.ow d2.od d2.dw.gw;clear kq bq d2 d1 hP hP2;go_wp2;refine bodyPost_ret (v:=(mnH w.heap.size r1 a c' ws da dc ds).v) ?_ rfl ⟨mnH w.heap.size r1 a c' ws da dc ds,rfl,hfq,hav,_,dq,by omega⟩;simp[results,Tryz.results74,go_sem,z0,z1,z2,z3,Hp.v,mnH,YW]
end
end Go.Proofs.YtcpnkpogebjieaaGreat
