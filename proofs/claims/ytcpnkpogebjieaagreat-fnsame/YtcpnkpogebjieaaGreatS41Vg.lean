/- The program's own mover: made. -/
import Derived.Deep.RegionLaw
import Derived.Deep.AppendLies
import Derived.Test.YtcpnkpogebjieaaGreatS17Ca
import Derived.Test.YtcpnkpogebjieaaGreatS30De
import Derived.Test.YtcpnkpogebjieaaGreatS10Vc
import Derived.Test.YtcpnkpogebjieaaGreatS29Im
import Derived.Test.YtcpnkpogebjieaaGreatS16Sr1
import Derived.Test.YtcpnkpogebjieaaGreatS26Da
open Go.Value renaming int→QhR,slice→QhS,string→QhU
open Go.Obj renaming cells→QhT
open List renaming getElem?_cons_zero→QhV,length_set→QhW,getElem?_cons_succ→QhX,take_succ_eq_append_getElem→QhY,take_of_length_le→QhZ
set_option maxHeartbeats 2000000
set_option maxRecDepth 100000
namespace Go.Proofs.YtcpnkpogebjieaaGreat
section
open Go.RowKit
theorem Qez:(Cut.prog.info? 134).map (fun i=>(i.zero,i.size,i.bytes))=some (some (.agg #[.int .i64 0,.string ⟨#[]⟩,.slice none 0 0,.int .i64 0]),4,56):=by kernel_rfl
def oc (x:Ob×Int):List Value:=[.int .i64 x.1.k,.string x.1.t,.slice x.1.ra x.1.r.length x.1.rcap,.int .i64 x.2]
theorem QfM (x:Ob×Int):∀u∈oc x,u.oneCell'=true:=fun u hu=>by
 simp[oc]at hu;rcases hu with rfl|rfl|rfl|rfl<;>rfl
theorem QfP {w:World}(x:Ob×Int)(t:TypeId):∀j u,(oc x)[j]? =some u→(w.alloc (QhT #[.int .i64 x.1.k,.string x.1.t,.slice x.1.ra x.1.r.length x.1.rcap,.int .i64 x.2] t)).cell? ((⟨w.heap.size,0,none⟩:Addr).add j)=some u:=
 World.news_of_block (cs:=#[.int .i64 x.1.k,.string x.1.t,.slice x.1.ra x.1.r.length x.1.rcap,.int .i64 x.2]) (heap_alloc_new w _)
theorem VW {w w':World}{base e size n:Nat}{v:Value}{xs:List Value}(h:w.ownsRow base e size v n xs)(hb:Below w.heap.size w w'):w'.ownsRow base e size v n xs:=by
 refine World.ownsRow.kept h (Jd hb (Nat.le_refl _) none) ?_
 cases e:v.ownBlock with
 |none=>exact Or.inl rfl
 |some k=>exact Or.inr (by simp)
structure Mv (W:World) (lo B:Nat) (vo vt:Value) (xs:List (Ob×Int)) (ts:List Ob):Prop where
 bx:Blk W B [vo,vt] 100
 ol:W.ownsRow lo 134 4 vo xs.length (xs.flatMap oc)
 tk:Qw W lo vt ts
theorem Mv.step {W W':World}{lo B:Nat}{vo vt:Value}{xs:List (Ob×Int)}{ts:List Ob}(m:Mv W lo B vo vt xs ts)(hb:Below W.heap.size W W'):Mv W' lo B vo vt xs ts:=
 ⟨m.bx.step hb,VW m.ol hb,VW m.tk hb⟩
theorem QfB (oa:Option Addr)(ocap:Nat)(os:List Ob)(w:World)(ho:ZE w oa os)(hol:os.length≤60):
 Calls Cut.prog 77 #[.slice oa os.length ocap] w fun e w'=>∃vo,e=.returned (.pointer (some ⟨w.heap.size,0,none⟩))∧Mv w' w.heap.size w.heap.size vo (.slice none 0 0) (os.map fun o=>(o,-1)) []∧Below w.heap.size w w':=by
 obtain⟨i0,hi,hz0,hz1,hz2⟩:=info_parts Qez;have hA0:=QC w (QhT #[QhS none 0 0,QhS none 0 0] 100);have hM0:Mv (w.alloc (QhT #[QhS none 0 0,QhS none 0 0] 100)) w.heap.size w.heap.size (.slice none 0 0) (.slice none 0 0) ((os.take 0).map fun o=>(o,-1)) []:=⟨Blk.new w [QhS none 0 0,QhS none 0 0] _,World.ownsRow_nil _ _ _ _,World.ownsRow_nil _ _ _ _⟩;go_enter (Cut.func_of Tryz.func77 rfl),Tryz.ntmps77;go_wp2;go_loopw [10] (fun i wr=>∃(k:Nat) (vo:Value),k≤os.length∧i=.int .i64 k∧Mv wr w.heap.size w.heap.size vo (.slice none 0 0) ((os.take k).map fun o=>(o,-1)) []∧Below w.heap.size w wr) (fun i _=>os.length-(intOf i).toNat)
 case atStart=>exact⟨0,_,Nat.zero_le _,rfl,hM0,hA0⟩
 case round=>
  obtain⟨k,vo,hk,rfl,M,hb⟩:=hrel;clear hM0 hA0;by_cases hlt:k<os.length
  ·obtain⟨b,off,rfl,hbo,e1,e2,e3⟩:=ho.get hlt;have d1:=(hb.cell (p:=⟨b,off+k*3,none⟩) hbo).trans e1;have d2:=(hb.cell (p:=⟨b,off+k*3+1,none⟩) hbo).trans e2;have d3:=(hb.cell (p:=⟨b,off+k*3+2,none⟩) hbo).trans e3
   have HF:Hid ((os.take (k+1)).map (fun o=>(o,(-1:Int)))=(os.take k).map (fun o=>(o,(-1:Int)))++ [(os[k],-1)]):=by
    show _=_;rw[QhY hlt,List.map_append];rfl
   have hi1:(k:Int)<(os.length:Int):=by omega
   have hll:((os.take k).map fun o=>(o,(-1:Int))).length≤k:=by simp;omega
   clear e1 e2 e3;generalize os[k]=o at *;obtain⟨k0,t0,ra0,rc0,r0⟩:=o;dsimp only at *;generalize hL:(os.take k).map (fun o=>(o,(-1:Int)))=L at *;have HL:Hid ((os.take k).map (fun o=>(o,(-1:Int)))=L):=hL;clear hL
   obtain⟨va,vcap,rfl⟩:∃va vcap,vo=.slice va L.length vcap:=by
    rcases M.ol.2 with⟨h1,h2⟩|⟨g,cap,cur,h1,_⟩
    ·exact⟨none,0,by rw[h1,h2]⟩
    ·exact⟨_,_,h1⟩
   have hA:=QC wr (QhT #[QhR .i64 k0,QhU t0,QhS ra0 r0.length rc0] 37);have hKo:=Blk.new wr [QhR .i64 k0,QhU t0,QhS ra0 r0.length rc0] 37;obtain⟨W1,hW1⟩:∃W1,W1=wr.alloc (QhT #[QhR .i64 k0,QhU t0,QhS ra0 r0.length rc0] 37):=⟨_,rfl⟩;have M1:=M.step hA;have hb1:=hb.trans (hA.mono hb.size);go_wp2_with fail;rw[←hW1]at hKo M1 hb1⊢;clear hW1 hA d1 d2 d3 M hb;have x0:=M1.bx.cell 0;have f0:=M1.bx.free 0;have y0:=hKo.cell 0;have y1:=hKo.cell 1;have y2:=hKo.cell 2;simp only[QhV,QhX]at x0 y0 y1 y2;have hne:=M1.bx.lt;have hne2:=hKo.lt;have hvA:(W1.alloc (QhT #[QhR .i64 k0,QhU t0,QhS ra0 r0.length rc0,QhR .i64 (-1)] 134)).drew.ownsRow w.heap.size 134 4 (.slice va L.length vcap) L.length (L.flatMap oc):=VW M1.ol ((QC _ _).trans ((Below.refl _ _).drew));have hbs:w.heap.size≤(W1.alloc (QhT #[QhR .i64 k0,QhU t0,QhS ra0 r0.length rc0,QhR .i64 (-1)] 134)).drew.heap.size:=Nat.le_trans hb1.size (QC W1 _).size
   have HEND:Hid (∀g cap w3,w3.ownsRow w.heap.size 134 4 (.slice (some ⟨g,0,none⟩) (L.length+1) cap) (L.length+1) (L.flatMap oc++ [QhR .i64 k0,QhU t0,QhS ra0 r0.length rc0,QhR .i64 (-1)])→(W1.alloc (QhT #[QhR .i64 k0,QhU t0,QhS ra0 r0.length rc0,QhR .i64 (-1)] 134)).drew.grownBy w3 (QhS va L.length vcap).ownBlock→
    (w3.cell? ⟨w.heap.size,0,none⟩=some (.slice va L.length vcap)∧w3.frozen? ⟨w.heap.size,0,none⟩=false)∧Mv (w3.setCell ⟨w.heap.size,0,none⟩ (.slice (some ⟨g,0,none⟩) (L.length+1) cap)) w.heap.size w.heap.size (.slice (some ⟨g,0,none⟩) (L.length+1) cap) (.slice none 0 0) ((os.take (k+1)).map fun o=>(o,-1)) []∧Below w.heap.size w (w3.setCell ⟨w.heap.size,0,none⟩ (.slice (some ⟨g,0,none⟩) (L.length+1) cap))):=fun g cap w3 ho3 hg3=>by
    have hA2:Below W1.heap.size W1 (W1.alloc (QhT #[QhR .i64 k0,QhU t0,QhS ra0 r0.length rc0,QhR .i64 (-1)] 134)).drew:=(QC _ _).trans ((Below.refl _ _).drew);have M2:=M1.step hA2;have b3:=M2.bx.grown hg3 (Qs M2.ol M2.bx (by decide));have hb2:=hb1.trans (hA2.mono hb1.size);refine⟨⟨b3.cell 0,b3.free 0⟩,⟨b3.store 0 _,?_,World.ownsRow_nil _ _ _ _⟩,(hb2.trans (QJ hg3 hb2.size (fun q e=>(M2.ol.lt q e).1))).setCell (Nat.le_refl _) _⟩;have ho3':w3.ownsRow w.heap.size 134 4 (.slice (some ⟨g,0,none⟩) (L.length+1) cap) (L++ [((⟨k0,t0,ra0,rc0,r0⟩:Ob),(-1:Int))]).length ((L++ [((⟨k0,t0,ra0,rc0,r0⟩:Ob),(-1:Int))]).flatMap oc):=by simpa[oc]using ho3
    rw[HF.out];exact ownsRow_setCell_other ho3' (Qs ho3' b3 (by decide)) _
   have hl1:L.length+1≤maxLen:=by unfold maxLen;omega
   have hl2:(L.length+1)*56≤140737488355328:=by omega
   clear M1 hKo hb1
   go_region_law (first
    |(refine step_append_lies _ rfl _ _ 98 rfl w.heap.size 134 i0 _ 4 56 ((Cut.under_eq 98).trans Tryz.underlying98) hi hz0 hz1 hz2 rfl (by decide) _ _ _ (by simp[Act.eval]) hvA ⟨W1.heap.size,0,none⟩ 1 1 [QhR .i64 k0,QhU t0,QhS ra0 r0.length rc0,QhR .i64 (-1)] (by simp[Act.eval]) rfl (QfP (⟨k0,t0,ra0,rc0,r0⟩,-1) _) (QfM (⟨k0,t0,ra0,rc0,r0⟩,-1)) (by decide) hl1 hl2 hbs _ rfl ?_;intro g cap w3 hown3 hgr hat hlt3;obtain⟨⟨q0,q1⟩,q2,q3⟩:=HEND.out g cap w3 hown3 hgr))
   all_goals
    clear hown3 hgr HEND hvA;go_wp2;go_roundw
    case rel=>exact⟨k+1,_,by omega,by go_num,q2,q3⟩
    case measure=>simp[intOf];omega
  ·have ek:os.take k=os:=QhZ (by omega);rw[ek]at M;clear ek;go_wp2;go_ret;exact⟨_,rfl,M,hb⟩
theorem Qgk {w:World}{base e size n g c k:Nat}{xs:List Value}(h:w.ownsRow base e size (.slice (some ⟨g,0,none⟩) n c) n xs)(u:Value):(w.setCell ⟨g,k,none⟩ u).ownsRow base e size (.slice (some ⟨g,0,none⟩) n c) n (xs.set k u):=by
 rcases h.2 with⟨h1,_⟩|⟨g',cap,cur,h1,hg,hh,hl,hm,hs,ht⟩
 ·simp at h1
 ·simp only[Value.slice.injEq,Option.some.injEq,Addr.mk.injEq,and_true,true_and]at h1;obtain⟨rfl,rfl⟩:=h1;refine⟨by rw[QhW];exact h.1,Or.inr ⟨g,c,(cur.toList.set k u).toArray,rfl,hg,?_,hl,hm,by simpa using hs,?_⟩⟩
  ·have hb:Blk w g cur.toList e:=by unfold Blk;simpa using hh
   have:=hb.store k u;unfold Blk at this;exact this
  ·rw[List.toList_toArray,List.take_set,ht]
theorem Qgj {w:World}{base e size n g c:Nat}{xs:List Value}(h:w.ownsRow base e size (.slice (some ⟨g,0,none⟩) n c) n xs)(k:Nat):w.frozen? ⟨g,k,none⟩=false:=by
 obtain⟨cur,hh⟩:=ZB h rfl;simp[World.frozen?,hh]
theorem QfN (xs:List (Ob×Int))(p:Nat)(hp:p<xs.length)(z:Int):(xs.flatMap oc).set (p*4+3) (.int .i64 z)=(xs.set p (xs[p].1,z)).flatMap oc:=by
 induction xs generalizing p with
 |nil=>simp at hp
 |cons x xs ih=>
  cases p with
  |zero=>simp[oc]
  |succ p=>
   have e:(p+1)*4+3=(p*4+3)+1+1+1+1:=by omega
   rw[e];have:=ih p (by simpa using hp);simp[oc,this]
theorem Pk {w:World}{base g n c:Nat}{xs:List (Ob×Int)}(h:w.ownsRow base 134 4 (.slice (some ⟨g,0,none⟩) n c) n (xs.flatMap oc))(p:Nat)(hp:p<xs.length):
 w.cell? ⟨g,p*4,none⟩=some (.int .i64 xs[p].1.k)∧w.cell? ⟨g,p*4+1,none⟩=some (.string xs[p].1.t)∧w.cell? ⟨g,p*4+2,none⟩=some (.slice xs[p].1.ra xs[p].1.r.length xs[p].1.rcap)∧w.cell? ⟨g,p*4+3,none⟩=some (.int .i64 xs[p].2):=by
 have hn:(xs.flatMap oc).length=xs.length*4:=JY oc 4 (fun _=>rfl) _;have hl:=h.1
 have hg:∀j,j<4→w.cell? ⟨g,p*4+j,none⟩=(oc xs[p])[j]? :=fun j hj=>by
  rw[h.cellAt _ (by omega),JE oc 4 (fun _=>rfl) xs p j hp hj]
 exact⟨hg 0 (by omega),hg 1 (by omega),hg 2 (by omega),hg 3 (by omega)⟩
theorem Qhg (W:World)(lo B:Nat)(vo vt:Value)(xs:List (Ob×Int))(ts:List Ob)(M:Mv W lo B vo vt xs ts)(p:Int)(hp0:0≤p)(hp:p.toNat<xs.length)(hxl:xs.length≤60)(htl:ts.length≤60)(hlo:lo≤W.heap.size):
 Calls Cut.prog 78 #[.pointer (some ⟨B,0,none⟩),.int .i64 p] W fun e w'=>∃vt',e=.returned (.tuple #[])∧Mv w' lo B vo vt' (xs.set p.toNat (xs[p.toNat].1,ts.length)) (ts++ [xs[p.toNat].1])∧
  (w'.os=W.os∧w'.tape=W.tape∧w'.output=W.output∧W.heap.size≤w'.heap.size∧∀k,k<W.heap.size→k≠B→vo.ownBlock≠some k→vt.ownBlock≠some k→w'.heap[k]? =W.heap[k]?)∧(vt'.ownBlock=vt.ownBlock∨∃g,vt'.ownBlock=some g∧W.heap.size≤g):=by
 obtain⟨i0,hi,hz0,hz1,hz2⟩:=info_parts YT
 obtain⟨g,c,rfl⟩:∃g c,vo=.slice (some ⟨g,0,none⟩) xs.length c:=by
  rcases M.ol.2 with⟨h1,h2⟩|⟨g,cap,cur,h1,_⟩
  ·omega
  ·exact⟨_,_,h1⟩
 obtain⟨ta,tcap,rfl⟩:∃ta tcap,vt=.slice ta ts.length tcap:=by
  rcases M.tk.2 with⟨h1,h2⟩|⟨g,cap,cur,h1,_⟩
  ·exact⟨none,0,by rw[h1,h2]⟩
  ·exact⟨_,_,h1⟩
 have x0:=M.bx.cell 0;have x1:=M.bx.cell 1;simp only[QhV,QhX]at x0 x1;obtain⟨-,-,-,c3⟩:=Pk M.ol p.toNat hp;have cf:=Qgj M.ol (p.toNat*4+3);have hpi:p<(xs.length:Int):=by omega
 have hsz:xs.length*4≤240:=by omega
 have M0:Mv (W.setCell ⟨g,p.toNat*4+3,none⟩ (.int .i64 ts.length)) lo B (.slice (some ⟨g,0,none⟩) xs.length c) (.slice ta ts.length tcap) (xs.set p.toNat (xs[p.toNat].1,ts.length)) ts:=by
  have hr:=Qgk (k:=p.toNat*4+3) M.ol (.int .i64 ts.length);rw[QfN _ _ hp]at hr;have h1:B≠g:=fun e=>Qs M.ol M.bx (by decide) (by rw[e];rfl);have hg:=Q1 W g (p.toNat*4+3) (.int .i64 ts.length);refine⟨M.bx.other _ _ h1,by rw[QhW];exact hr,QO M.tk M.ol hg (by decide)⟩
 have M1:=M0.step ((Below.refl _ _).drew);have HT:Hid (∃W2:World,W2=W):=⟨_,rfl⟩;have hk1:∀k,k≠g→(W.setCell ⟨g,p.toNat*4+3,none⟩ (.int .i64 ts.length)).drew.heap[k]? =W.heap[k]? :=fun k hk=>Below.heap_setCell _ _ _ _ hk
 have hs1:(W.setCell ⟨g,p.toNat*4+3,none⟩ (.int .i64 ts.length)).drew.heap.size=W.heap.size:=by
  show(W.setCell ⟨g,p.toNat*4+3,none⟩ (.int .i64 ts.length)).heap.size=_;simp[World.setCell]
 have ho1:(W.setCell ⟨g,p.toNat*4+3,none⟩ (.int .i64 ts.length)).drew.os=W.os∧(W.setCell ⟨g,p.toNat*4+3,none⟩ (.int .i64 ts.length)).drew.tape=W.tape∧(W.setCell ⟨g,p.toNat*4+3,none⟩ (.int .i64 ts.length)).drew.output=W.output:=⟨rfl,rfl,rfl⟩;have HK1:Hid (∀k,k≠g→(W.setCell ⟨g,p.toNat*4+3,none⟩ (.int .i64 ts.length)).drew.heap[k]? =W.heap[k]?):=hk1;have HS1:Hid ((W.setCell ⟨g,p.toNat*4+3,none⟩ (.int .i64 ts.length)).drew.heap.size=W.heap.size):=hs1;have HO1:Hid ((W.setCell ⟨g,p.toNat*4+3,none⟩ (.int .i64 ts.length)).drew.os=W.os∧(W.setCell ⟨g,p.toNat*4+3,none⟩ (.int .i64 ts.length)).drew.tape=W.tape∧(W.setCell ⟨g,p.toNat*4+3,none⟩ (.int .i64 ts.length)).drew.output=W.output):=ho1;have hp':p.toNat<(xs.set p.toNat (xs[p.toNat].1,(ts.length:Int))).length:=by rw[QhW];exact hp
 have HX:Hid ((xs.set p.toNat (xs[p.toNat].1,(ts.length:Int)))[p.toNat]=(xs[p.toNat].1,(ts.length:Int))):=by show _=_;simp
 clear M M0 hk1 hs1 ho1 HT;go_enter (Cut.func_of Tryz.func78 rfl),Tryz.ntmps78;go_wp2_with fail;go_region;clear x0 x1 c3 cf;generalize (W.setCell ⟨g,p.toNat*4+3,none⟩ (.int .i64 ts.length)).drew=W1 at *;have x0:=M1.bx.cell 0;have x1:=M1.bx.cell 1;have f1:=M1.bx.free 1;simp only[QhV,QhX]at x0 x1;have olx:=M1.ol;rw[QhW]at olx;obtain⟨c0,c1,c2,-⟩:=Pk olx p.toNat hp';rw[HX.out]at c0 c1 c2;dsimp only at c0 c1 c2;generalize hX:xs[p.toNat].1=o at *;have HXE:Hid (xs[p.toNat].1=o):=hX;clear hX HX olx;obtain⟨k0,t0,ra0,rc0,r0⟩:=o;dsimp only at c0 c1 c2;have hlt:=M1.bx.lt;have hvA:(W1.alloc (QhT #[QhR .i64 k0,QhU t0,QhS ra0 r0.length rc0] 37)).drew.ownsRow lo 37 3 (.slice ta ts.length tcap) ts.length (ts.flatMap Ob.cs):=VW M1.tk ((QC _ _).trans ((Below.refl _ _).drew));have hbs:lo≤(W1.alloc (QhT #[QhR .i64 k0,QhU t0,QhS ra0 r0.length rc0] 37)).drew.heap.size:=Nat.le_trans (by rw[HS1.out];exact hlo) (QC W1 _).size
 have HEND:Hid (∀g' cap w3,w3.ownsRow lo 37 3 (.slice (some ⟨g',0,none⟩) (ts.length+1) cap) (ts.length+1) (ts.flatMap Ob.cs++ [QhR .i64 k0,QhU t0,QhS ra0 r0.length rc0])→(W1.alloc (QhT #[QhR .i64 k0,QhU t0,QhS ra0 r0.length rc0] 37)).drew.grownBy w3 (QhS ta ts.length tcap).ownBlock→((QhS ta ts.length tcap).ownBlock=some g'∨g'=(W1.alloc (QhT #[QhR .i64 k0,QhU t0,QhS ra0 r0.length rc0] 37)).drew.heap.size)→
  (w3.cell? ⟨B,1,none⟩=some (.slice ta ts.length tcap)∧w3.frozen? ⟨B,1,none⟩=false)∧Mv (w3.setCell ⟨B,1,none⟩ (.slice (some ⟨g',0,none⟩) (ts.length+1) cap)) lo B (.slice (some ⟨g,0,none⟩) xs.length c) (.slice (some ⟨g',0,none⟩) (ts.length+1) cap) (xs.set p.toNat (⟨k0,t0,ra0,rc0,r0⟩,ts.length)) (ts++ [⟨k0,t0,ra0,rc0,r0⟩])∧
  ((w3.setCell ⟨B,1,none⟩ (.slice (some ⟨g',0,none⟩) (ts.length+1) cap)).os=W.os∧(w3.setCell ⟨B,1,none⟩ (.slice (some ⟨g',0,none⟩) (ts.length+1) cap)).tape=W.tape∧(w3.setCell ⟨B,1,none⟩ (.slice (some ⟨g',0,none⟩) (ts.length+1) cap)).output=W.output∧W.heap.size≤(w3.setCell ⟨B,1,none⟩ (.slice (some ⟨g',0,none⟩) (ts.length+1) cap)).heap.size∧∀k,k<W.heap.size→k≠B→(QhS (some ⟨g,0,none⟩) xs.length c).ownBlock≠some k→(QhS ta ts.length tcap).ownBlock≠some k→(w3.setCell ⟨B,1,none⟩ (.slice (some ⟨g',0,none⟩) (ts.length+1) cap)).heap[k]? =W.heap[k]?)∧
  ((QhS (some ⟨g',0,none⟩) (ts.length+1) cap).ownBlock=(QhS ta ts.length tcap).ownBlock∨∃x,(QhS (some ⟨g',0,none⟩) (ts.length+1) cap).ownBlock=some x∧W.heap.size≤x)):=fun g' cap w3 ho3 hg3 hat=>by
  have hA2:Below W1.heap.size W1 (W1.alloc (QhT #[QhR .i64 k0,QhU t0,QhS ra0 r0.length rc0] 37)).drew:=(QC _ _).trans ((Below.refl _ _).drew);have M2:=M1.step hA2;have b3:=M2.bx.grown hg3 (Qs M2.tk M2.bx (by decide));have ho3':Qw w3 lo (.slice (some ⟨g',0,none⟩) (ts.length+1) cap) (ts++ [⟨k0,t0,ra0,rc0,r0⟩]):=by unfold Qw;simpa[Ob.cs]using ho3
  have ol3:=QO M2.ol M2.tk hg3 (by decide);have hs2:W.heap.size≤(W1.alloc (QhT #[QhR .i64 k0,QhU t0,QhS ra0 r0.length rc0] 37)).drew.heap.size:=by rw[←HS1.out];exact hA2.size
  refine⟨⟨b3.cell 1,b3.free 1⟩,⟨b3.store 1 _,ownsRow_setCell_other ol3 (Qs ol3 b3 (by decide)) _,ownsRow_setCell_other ho3' (Qs ho3' b3 (by decide)) _⟩,⟨?_,?_,?_,?_,fun k hk n1 n2 n3=>?_⟩,?_⟩
  ·exact(hg3.os.trans hA2.os).trans HO1.out.1
  ·exact(hg3.tape.trans hA2.tape).trans HO1.out.2.1
  ·exact(hg3.output.trans hA2.output).trans HO1.out.2.2
  ·have:=hg3.size;simp[World.setCell];omega
  ·rw[Below.heap_setCell _ _ _ _ n1,hg3.block k (by omega) (fun e=>n3 e.symm),hA2.block k (by rw[HS1.out];exact hk)];exact HK1.out k fun e=>n2 (by rw[e];rfl)
  ·rcases hat with h1|h1
   ·exact .inl (by rw[h1];rfl)
   ·exact .inr ⟨g',rfl,by omega⟩
 have hl1:ts.length+1≤maxLen:=by unfold maxLen;omega
 have hl2:(ts.length+1)*48≤140737488355328:=by omega
 clear M1;go_wp2_with fail
 go_region_law (first
  |(refine step_append_lies _ rfl _ _ 23 rfl lo 37 i0 _ 3 48 ((Cut.under_eq 23).trans Tryz.underlying23) hi hz0 hz1 hz2 rfl (by decide) _ _ _ (by simp[Act.eval]) hvA ⟨W1.heap.size,0,none⟩ 1 1 [QhR .i64 k0,QhU t0,QhS ra0 r0.length rc0] (by simp[Act.eval]) rfl (Uz ⟨k0,t0,ra0,rc0,r0⟩ _) (Ob.one ⟨k0,t0,ra0,rc0,r0⟩) (by decide) hl1 hl2 hbs _ rfl ?_;intro g' cap w3 hown3 hgr hat hlt3;obtain⟨⟨q0,q1⟩,q2,q3,q4⟩:=HEND.out g' cap w3 hown3 hgr hat))
 all_goals
  clear hown3 hgr HEND hvA;go_wp2
  go_end0
  exact⟨_,rfl,by rw[HXE.out];exact q2,q3,q4⟩
theorem Qeq (W:World)(lo B:Nat)(vo vt:Value)(xs:List (Ob×Int))(ts:List Ob)(M:Mv W lo B vo vt xs ts)(hxl:xs.length≤60):
 Calls Cut.prog 79 #[.pointer (some ⟨B,0,none⟩)] W fun e w'=>∃v',e=.returned v'∧Qa w' W.heap.size v' (xs.map fun x=>x.2)∧Below W.heap.size W w':=by
 obtain⟨i0,hi,hz0,hz1,hz2⟩:=info_parts Je
 obtain⟨va,vcap,rfl⟩:∃va vcap,vo=.slice va xs.length vcap:=by
  rcases M.ol.2 with⟨h1,h2⟩|⟨g,cap,cur,h1,_⟩
  ·exact⟨none,0,by rw[h1,h2]⟩
  ·exact⟨_,_,h1⟩
 have x0:=M.bx.cell 0;simp only[QhV]at x0;have hlt:=M.bx.lt;go_enter (Cut.func_of Tryz.func79 rfl),Tryz.ntmps79;go_wp2_with (at_make;refine wpList_make_own _ rfl _ _ 24 rfl W.heap.size 3 i0 (.int .i64 0) 1 ((Cut.under_eq 24).trans Tryz.underlying24) hi hz0 hz1 .i64 .i64 _ xs.length rfl rfl rfl ?c1 ?c2 (Nat.le_refl _) ?_)
 case c1=>rw[hz2];omega
 case c2=>unfold maxLen;omega
 intro w0 hown0 hg0;have hB0:=Vk hg0;have hO0:Qa w0 W.heap.size (.slice (some ⟨W.heap.size,0,none⟩) 0 xs.length) ((xs.take 0).map fun x=>x.2):=hown0;have y0:=(hB0.cell (p:=⟨B,0,none⟩) hlt).trans x0;clear hown0 hg0;go_wp2;go_loopw [3,17] (fun v i wr=>∃k:Nat,k≤xs.length∧i=.int .i64 k∧Qa wr W.heap.size v ((xs.take k).map fun x=>x.2)∧Below W.heap.size W wr) (fun _ i _=>xs.length-(intOf i).toNat)
 case atStart=>exact⟨0,Nat.zero_le _,rfl,hO0,hB0⟩
 case round=>
  obtain⟨k,hk,rfl,hown,hb⟩:=hrel;clear hO0 hB0 y0 x0;by_cases hlt2:k<xs.length
  ·obtain⟨g,hga⟩:∃g,va=some ⟨g,0,none⟩:=by
    rcases M.ol.2 with⟨_,h2⟩|⟨g,cap,cur,h1,_⟩
    ·omega
    ·exact⟨g,by simp at h1;exact h1.1⟩
   subst hga;obtain⟨c0,c1,c2,c3⟩:=Pk M.ol k hlt2;have hgl:g<W.heap.size:=(M.ol.lt g rfl).2;have d0:=(hb.cell (p:=⟨g,k*4,none⟩) hgl).trans c0;have d1:=(hb.cell (p:=⟨g,k*4+1,none⟩) hgl).trans c1;have d2:=(hb.cell (p:=⟨g,k*4+2,none⟩) hgl).trans c2;have d3:=(hb.cell (p:=⟨g,k*4+3,none⟩) hgl).trans c3
   have HF:Hid ((xs.take (k+1)).map (fun x=>x.2)=(xs.take k).map (fun x=>x.2)++ [xs[k].2]):=by
    show _=_;rw[QhY hlt2,List.map_append];rfl
   have hfl:((xs.take k).map fun x=>x.2).length≤k:=by rw[List.length_map];exact List.length_take_le _ _
   have hi1:(k:Int)<(xs.length:Int):=by omega
   clear c0 c1 c2 c3 M;generalize xs[k]=x at *;obtain⟨⟨k0,t0,ra0,rc0,r0⟩,z⟩:=x;dsimp only at *;generalize hL:(xs.take k).map (fun x=>x.2)=L at *;have HL:Hid ((xs.take k).map (fun x=>x.2)=L):=hL;clear hL;obtain⟨ua,ucap,rfl,-⟩:=hown.form;have hA1:=QC wr (QhT #[QhR .i64 k0,QhU t0,QhS ra0 r0.length rc0,QhR .i64 z] 134);obtain⟨W1,hW1⟩:∃W1,W1=wr.alloc (QhT #[QhR .i64 k0,QhU t0,QhS ra0 r0.length rc0,QhR .i64 z] 134):=⟨_,rfl⟩;have hKo:=Blk.new wr [QhR .i64 k0,QhU t0,QhS ra0 r0.length rc0,QhR .i64 z] 134;have hown1:Qa W1 W.heap.size (.slice ua L.length ucap) L:=by rw[hW1];exact hown.below hA1 (Nat.le_refl _)
   have hb1:Below W.heap.size W W1:=by rw[hW1];exact hb.trans (hA1.mono hb.size)
   have y3:W1.cell? ⟨wr.heap.size,3,none⟩=some (.int .i64 z):=by rw[hW1];exact hKo.cell 3
   have hvA:(W1.alloc (QhT #[QhR .i64 z] 3)).ownsRow W.heap.size 3 1 (.slice ua L.length ucap) L.length (L.map (QhR .i64)):=World.ownsRow.alloc hown1 _
   have HEND:Hid (∀v' w2,w2.ownsRow W.heap.size 3 1 v' (L.length+1) (L.map (QhR .i64)++ [.int .i64 z])→(W1.alloc (QhT #[QhR .i64 z] 3)).grownBy w2 (QhS ua L.length ucap).ownBlock→Qa w2 W.heap.size v' ((xs.take (k+1)).map fun x=>x.2)∧Below W.heap.size W w2):=fun v' w2 ho hg=>by
    have hA:Below W1.heap.size W1 (W1.alloc (QhT #[QhR .i64 z] 3)):=QC _ _;refine⟨?_,(hb1.trans (hA.mono hb1.size)).trans (QJ hg (Nat.le_trans hb1.size hA.size) (fun q e=>(hown1.lt q e).1))⟩;rw[HF.out];unfold Qa;simpa using ho
   have hbs:W.heap.size≤(W1.alloc (QhT #[QhR .i64 z] 3)).heap.size:=by have:=hb1.size;simp;omega
   have hl1:L.length+1≤maxLen:=by unfold maxLen;omega
   have hl2:(L.length+1)*8≤140737488355328:=by omega
   have hnw:∀j u,[QhR .i64 z][j]? =some u→(W1.alloc (QhT #[QhR .i64 z] 3)).cell? ((⟨wr.heap.size+1,0,none⟩:Addr).add j)=some u:=by
    have h1:=cell_one_new W1 (QhR .i64 z) 3;have h2:W1.heap.size=wr.heap.size+1:=by rw[hW1];simp
    rw[h2]at h1;exact h1
   rw[hW1]at hvA HEND hbs hnw;clear hW1 y3 hown hb hown1 hb1 hKo hA1;clear W1;go_wp2_with (at_builtin;refine wpList_append_own_at _ rfl _ _ 24 rfl W.heap.size 3 i0 (.int .i64 0) 1 8 ((Cut.under_eq 24).trans Tryz.underlying24) hi hz0 hz1 hz2 rfl (by decide) _ _ _ rfl hvA ⟨wr.heap.size+1,0,none⟩ 1 1 [.int .i64 z] rfl rfl hnw (UT [z]) hl1 hl2 hbs ?_);intro v' w3 hown3 hgr _ _;obtain⟨q2,q3⟩:=HEND.out v' w3 hown3 hgr;clear hown3 hgr HEND hvA;go_wp2;go_roundw
   case rel=>exact⟨k+1,by omega,by go_num,q2,q3⟩
   case measure=>simp[intOf];omega
  ·have ek:xs.take k=xs:=QhZ (by omega);rw[ek]at hown;clear ek;go_wp2;go_ret;exact⟨_,rfl,hown,hb⟩
end
end Go.Proofs.YtcpnkpogebjieaaGreat
