/- The program's own placedBy: a heap with just these objects of it, all places told by -/
import Derived.Test.YtcpnkpogebjieaaGreatG18Ye
import Derived.Test.YtcpnkpogebjieaaGreatG27Ss4
import Derived.Deep.Cut
open Go.Value renaming slice→Qhp,int→Qhw,string→Qhz
open Nat renaming le_refl→Qhq,le_trans→Qhv
open Go.Obj renaming cells→Qhr
open List renaming set_cons_zero→Qhs,set_cons_succ→Qht,setIfInBounds_toArray→Qhu,length_map→Qhx,map_append→Qhy,getElem?_cons_zero→QhA,getElem?_cons_succ→QhB,getElem?_eq_getElem→QhC,take_succ_eq_append_getElem→QhD
set_option maxHeartbeats 3000000
set_option maxRecDepth 100000
namespace Go.Proofs.YtcpnkpogebjieaaGreat
section
open Go.RowKit
structure YI (w:World) (h:Hp) (X:List Int) (wr:World) (l:List Ob) (vo:Value) (ps:List (Int×ByteArray×List Int)):Prop where
 mp:l.map Ob.p=ps
 bp:Blk wr (w.heap.size+1+1) [vo,.slice none 0 0,.slice none 0 0,.slice none 0 0] 27
 ob:Qu wr w.heap.size vo l
 rs:QJ wr w.heap.size l
 be:Below w.heap.size w wr
 bh:Blk wr w.heap.size [Qhp h.oa h.os.length h.ocap,Qhp h.ra h.rs.length h.rcap,Qhp h.wa h.ws.length h.wcap,Qhp h.da h.ds.length h.dcap] 27
 br:Blk wr (w.heap.size+1) [.slice none 0 0,.slice none 0 0,.slice none 0 0,.slice none 0 0] 27
theorem Qc {w:World}{B t:Nat}{c0 c1 c2 c3:Value}(hk:Blk w B [c0,c1,c2,c3] t):
 w.cell? ⟨B,0,none⟩=some c0∧w.cell? ⟨B,1,none⟩=some c1∧w.cell? ⟨B,2,none⟩=some c2∧w.cell? ⟨B,3,none⟩=some c3:=
 ⟨hk.cell 0,hk.cell 1,hk.cell 2,hk.cell 3⟩
theorem YI.next {w:World}{h:Hp}{X:List Int}{wr W1 w2 w3:World}{l:List Ob}{va:Option Addr}{vcap:Nat}{ps:List (Int×ByteArray×List Int)}(H:YI w h X wr l (.slice va l.length vcap) ps)(o:Ob)(hW1:Below wr.heap.size wr W1)(h2:Below W1.heap.size W1 w2)(ho:Qa w2 W1.heap.size o.rv o.r)
 (g cap:Nat)(hown:w3.ownsRow w.heap.size 37 3 (.slice (some ⟨g,0,none⟩) (l.length+1) cap) (l.length+1) (l.flatMap Ob.cs++o.cs))(hg:(w2.alloc (Qhr #[.int .i64 o.k,.string o.t,.slice o.ra o.r.length o.rcap] 37)).grownBy w3 (Qhp va l.length vcap).ownBlock):
 YI w h X (w3.setCell ⟨w.heap.size+1+1,0,none⟩ (.slice (some ⟨g,0,none⟩) (l.length+1) cap)) (l++ [o]) (.slice (some ⟨g,0,none⟩) (l.length+1) cap) (ps++ [o.p]):=by
 have hA:Below w2.heap.size w2 (w2.alloc (Qhr #[.int .i64 o.k,.string o.t,.slice o.ra o.r.length o.rcap] 37)):=(Below.refl _ _).alloc (Qhq _) _
 have b1:Below wr.heap.size wr w2:=hW1.trans (h2.mono hW1.size)
 have b2:Below wr.heap.size wr (w2.alloc (Qhr #[.int .i64 o.k,.string o.t,.slice o.ra o.r.length o.rcap] 37)):=b1.trans (hA.mono b1.size)
 have b3:=H.be.trans (b2.mono H.be.size)
 have ob2:=H.ob.below b2 (Qhq _)
 have rs2:=H.rs.below b2 (Qhq _)
 have ro2:=(ho.below hA (Qhq _)).base (C:=w.heap.size) (Qhv H.be.size hW1.size)
 have bp2:=H.bp.below b2 H.bp.lt
 have bh2:=H.bh.below b2 H.bh.lt
 have br2:=H.br.below b2 H.br.lt
 have bp3:=bp2.grown hg (Qr ob2 bp2 (by decide))
 have hown':Qu w3 w.heap.size (.slice (some ⟨g,0,none⟩) (l.length+1) cap) (l++ [o]):=by unfold Qu;simpa using hown
 have rs3:=rs2.grown ob2 (by decide) hg
 have ro3:=ro2.kept hg (Um ro2 ob2 (by decide))
 refine⟨by rw[Qhy,H.mp];rfl,bp3.store 0 _,ownsRow_setCell_other hown' (Qr hown' bp3 (by decide)) _,?_,?_,?_,?_⟩
 ·refine(rs3.snoc o ro3 fun i hi a b ha hb=>?_).set bp3 (by decide) 0 _
  have h1:=(H.rs.lt i hi a ha).2
  have h2':=(ho.lt b hb).1
  have:=hW1.size
  omega
 ·refine(b3.trans (QL hg b3.size (fun k e=>(ob2.lt k e).1))).setCell (by dsimp only;omega) _
 ·exact(bh2.grown hg (Qr ob2 bh2 (by decide))).other _ _ (by dsimp only;omega)
 ·exact(br2.grown hg (Qr ob2 br2 (by decide))).other _ _ (by dsimp only;omega)
theorem Qft (h:Hp)(oa:Option Addr)(ocap:Nat)(obs:List Ob)(n:Nat)(X:List Int)(ya:Option Addr)(ycap:Nat)(w:World)(hh:Qg w h)(hs:Zl h)(hob:ZQ w oa obs)(hol:obs.length≤1048576)(hrl:∀i (hi:i<obs.length),obs[i].r.length≤1048576)
 (hor:∀i (hi:i<obs.length),∀z∈obs[i].r,-1≤z∧z<n)(hy:Qk w ya (whs X n))(hro:∀z∈h.rs,-1≤z∧z<n)(hwo:∀p∈h.ws,(0≤p.1∧p.1<n)∧(0≤p.2∧p.2<n))(hdo:∀p∈h.ds,(0≤p.1∧p.1<n)∧(0≤p.2∧p.2<n)):
 Calls Cut.prog 80 #[h.v,.slice oa obs.length ocap,.slice ya n ycap] w fun e w'=>∃h':Hp,e=.returned h'.v∧h'.p=(obs.map (QY X),h.rs.map (wh X),Qo h.ws X,Qo h.ds X)∧Q5 w' w.heap.size h'∧Below w.heap.size w w':=by
 obtain⟨i0,hi,hz0,hz1,hz2⟩:=info_parts Uc
 simp only[Hp.v]
 go_enter (Cut.func_of Tryz.func80 rfl),Tryz.ntmps80
 go_wp2
 have H0:YI w h X (((w.alloc (Qhr #[Qhp h.oa h.os.length h.ocap,Qhp h.ra h.rs.length h.rcap,Qhp h.wa h.ws.length h.wcap,Qhp h.da h.ds.length h.dcap] 27)).alloc (Qhr #[Qhp none 0 0,Qhp none 0 0,Qhp none 0 0,Qhp none 0 0] 27)).alloc (Qhr #[Qhp none 0 0,Qhp none 0 0,Qhp none 0 0,Qhp none 0 0] 27)) [] (.slice none 0 0) ((obs.take 0).map (QY X)):=by
  refine⟨rfl,?_,World.ownsRow_nil _ _ _ _,QJ.nil _ _,(((Below.refl _ _).alloc (Qhq _) _).alloc (by simp) _).alloc (by simp;omega) _,?_,?_⟩
  ·have:=Blk.new ((w.alloc (Qhr #[Qhp h.oa h.os.length h.ocap,Qhp h.ra h.rs.length h.rcap,Qhp h.wa h.ws.length h.wcap,Qhp h.da h.ds.length h.dcap] 27)).alloc (Qhr #[Qhp none 0 0,Qhp none 0 0,Qhp none 0 0,Qhp none 0 0] 27)) [.slice none 0 0,.slice none 0 0,.slice none 0 0,.slice none 0 0] 27
   simpa using this
  ·exact((Blk.new w _ _).alloc _).alloc _
  ·have:=(Blk.new (w.alloc (Qhr #[Qhp h.oa h.os.length h.ocap,Qhp h.ra h.rs.length h.rcap,Qhp h.wa h.ws.length h.wcap,Qhp h.da h.ds.length h.dcap] 27)) [.slice none 0 0,.slice none 0 0,.slice none 0 0,.slice none 0 0] 27).alloc (Qhr #[Qhp none 0 0,Qhp none 0 0,Qhp none 0 0,Qhp none 0 0] 27)
   simpa using this
 go_loopw [9,12] (fun _ i wr=>∃(k:Nat) (l:List Ob) (vo:Value),k≤obs.length∧i=.int .i64 k∧YI w h X wr l vo ((obs.take k).map (QY X))) (fun _ i _=>obs.length-(intOf i).toNat)
 case atStart=>exact⟨0,[],_,Nat.zero_le _,rfl,H0⟩
 case round=>
  obtain⟨k,l,vo,hk,rfl,H⟩:=hrel
  clear H0
  by_cases hlt:k<obs.length
  ·have hb:=H.be
   have hbs:=hb.size
   have hll:l.length=k:=by
    have:=congrArg List.length H.mp
    simpa[Nat.min_eq_left hk]using this
   obtain⟨b,off,rfl,hbo,e1,e2,e3⟩:=hob.get hlt
   have d1:=(hb.cell (p:=⟨b,off+k*3,none⟩) hbo).trans e1
   have d2:=(hb.cell (p:=⟨b,off+k*3+1,none⟩) hbo).trans e2
   have d3:=(hb.cell (p:=⟨b,off+k*3+2,none⟩) hbo).trans e3
   have hA:Below wr.heap.size wr (wr.alloc (Qhr #[Qhw .i64 obs[k].k,Qhz obs[k].t,Qhp obs[k].ra obs[k].r.length obs[k].rcap] 37)):=(Below.refl _ _).alloc (Qhq _) _
   have hKo:=Blk.new wr [Qhw .i64 obs[k].k,Qhz obs[k].t,Qhp obs[k].ra obs[k].r.length obs[k].rcap] 37
   have hbA:=hb.trans (hA.mono hb.size)
   have HF:Hid ((obs.take (k+1)).map (QY X)=(obs.take k).map (QY X)++ [QY X obs[k]]):=by
    show _=_
    rw[QhD hlt,Qhy];rfl
   have sr:=(hob.2 k hlt).below hbA (Qhq _)
   have hrl1:=hrl k hlt
   have hor1:=hor k hlt
   have hi1:(k:Int)<(obs.length:Int):=by omega
   clear e1 e2 e3
   generalize obs[k]=o at *
   obtain⟨k0,t0,ra0,rc0,r0⟩:=o
   dsimp only at *
   have HW1:∃W1,W1=wr.alloc (Qhr #[Qhw .i64 k0,Qhz t0,Qhp ra0 r0.length rc0] 37):=⟨_,rfl⟩
   obtain⟨W1,hW1⟩:=HW1
   go_wp2_with fail
   rw[←hW1]at hA hKo hbA sr⊢
   clear hW1
   obtain⟨va,vcap,rfl,-,-⟩:=H.ob.form
   have c1:=Qbg n X ra0 rc0 r0 ya ycap W1.drew (sr.below ((Below.refl _ _).drew) (Qhq _)) hrl1 (hy.below hbA.drew (Qhq _)) hor1
   have hbp:=H.bp.below hA H.bp.lt
   have x0:=hbp.cell 0
   have x0f:=hbp.free 0
   have y0:=hKo.cell 0
   have y1:=hKo.cell 1
   have y2:=hKo.cell 2
   simp only[QhA,QhB]at x0 y0 y1 y2
   have hne:¬w.heap.size+1+1=wr.heap.size:=by have:=H.bp.lt;omega
   have hne':¬wr.heap.size=w.heap.size+1+1:=by omega
   have HC:Hid (∀w2,Below W1.drew.heap.size W1.drew w2→(w2.cell? ⟨w.heap.size+1+1,0,none⟩=some (.slice va l.length vcap)∧w2.cell? ⟨wr.heap.size,0,none⟩=some (.int .i64 k0)∧w2.cell? ⟨wr.heap.size,1,none⟩=some (.string t0)∧w2.cell? ⟨wr.heap.size,2,none⟩=some (.slice ra0 r0.length rc0))):=fun w2 hb2=>by
    have l1:w.heap.size+1+1<W1.heap.size:=hbp.lt
    have l2:wr.heap.size<W1.heap.size:=hKo.lt
    exact⟨(hb2.cell (p:=⟨w.heap.size+1+1,0,none⟩) l1).trans x0,(hb2.cell (p:=⟨wr.heap.size,0,none⟩) l2).trans y0,(hb2.cell (p:=⟨wr.heap.size,1,none⟩) l2).trans y1,(hb2.cell (p:=⟨wr.heap.size,2,none⟩) l2).trans y2⟩
   have HV:Hid (∀w2 a' c',Below W1.drew.heap.size W1.drew w2→(w2.alloc (Qhr #[.int .i64 k0,.string t0,.slice a' r0.length c'] 37)).ownsRow w.heap.size 37 3 (.slice va l.length vcap) l.length (l.flatMap Ob.cs)∧w.heap.size≤(w2.alloc (Qhr #[.int .i64 k0,.string t0,.slice a' r0.length c'] 37)).heap.size∧
    (w2.alloc (Qhr #[.int .i64 k0,.string t0,.slice a' r0.length c'] 37)).cell? ⟨w.heap.size+1+1,0,none⟩=some (.slice va l.length vcap)∧(w2.alloc (Qhr #[.int .i64 k0,.string t0,.slice a' r0.length c'] 37)).cell? ⟨wr.heap.size,0,none⟩=some (.int .i64 k0)∧(w2.alloc (Qhr #[.int .i64 k0,.string t0,.slice a' r0.length c'] 37)).cell? ⟨wr.heap.size,1,none⟩=some (.string t0)∧(w2.alloc (Qhr #[.int .i64 k0,.string t0,.slice a' r0.length c'] 37)).cell? ⟨wr.heap.size,2,none⟩=some (.slice ra0 r0.length rc0)):=fun w2 a' c' hb2=>by
    have hA2:Below w2.heap.size w2 (w2.alloc (Qhr #[.int .i64 k0,.string t0,.slice a' r0.length c'] 37)):=(Below.refl _ _).alloc (Qhq _) _
    have hb2':Below W1.heap.size W1 w2:=((Below.refl _ _).drew).trans hb2
    have hbb:Below wr.heap.size wr (w2.alloc (Qhr #[.int .i64 k0,.string t0,.slice a' r0.length c'] 37)):=(hA.trans (hb2'.mono hA.size)).trans (hA2.mono (Qhv hA.size hb2'.size))
    have hbc:Below W1.heap.size W1 (w2.alloc (Qhr #[.int .i64 k0,.string t0,.slice a' r0.length c'] 37)):=hb2'.trans (hA2.mono hb2'.size)
    have l2:wr.heap.size<W1.heap.size:=hKo.lt
    exact⟨H.ob.below hbb (Qhq _),Qhv hbs hbb.size,(hbb.cell (p:=⟨w.heap.size+1+1,0,none⟩) H.bp.lt).trans (H.bp.cell 0),(hbc.cell (p:=⟨wr.heap.size,0,none⟩) l2).trans y0,(hbc.cell (p:=⟨wr.heap.size,1,none⟩) l2).trans y1,(hbc.cell (p:=⟨wr.heap.size,2,none⟩) l2).trans y2⟩
   have HE:Hid (∀w2 a' c' g cap w3,Below W1.drew.heap.size W1.drew w2→Qa w2 W1.drew.heap.size (.slice a' (r0.map (wh X)).length c') (r0.map (wh X))→w3.ownsRow w.heap.size 37 3 (.slice (some ⟨g,0,none⟩) (l.length+1) cap) (l.length+1) (l.flatMap Ob.cs++ [.int .i64 k0,.string t0,.slice a' r0.length c'])→(w2.alloc (Qhr #[.int .i64 k0,.string t0,.slice a' r0.length c'] 37)).grownBy w3 (Qhp va l.length vcap).ownBlock→
    (YI w h X (w3.setCell ⟨w.heap.size+1+1,0,none⟩ (.slice (some ⟨g,0,none⟩) (l.length+1) cap)) (l++ [⟨k0,t0,a',c',r0.map (wh X)⟩]) (.slice (some ⟨g,0,none⟩) (l.length+1) cap) ((obs.take (k+1)).map (QY X)))∧(w3.cell? ⟨w.heap.size+1+1,0,none⟩=some (.slice va l.length vcap)∧w3.frozen? ⟨w.heap.size+1+1,0,none⟩=false∧w3.cell? ⟨wr.heap.size,0,none⟩=some (.int .i64 k0)∧w3.cell? ⟨wr.heap.size,1,none⟩=some (.string t0)∧w3.cell? ⟨wr.heap.size,2,none⟩=some (.slice ra0 r0.length rc0))):=fun w2 a' c' g cap w3 hb2 ho2 hown hgr=>by
    have hb2':Below W1.heap.size W1 w2:=((Below.refl _ _).drew).trans hb2
    obtain⟨q0,q1,q2,q3,q4,q5⟩:=HV.out w2 a' c' hb2
    have lr:(r0.map (wh X)).length=r0.length:=Qhx _
    have HN:=H.next ⟨k0,t0,a',c',r0.map (wh X)⟩ hA hb2' ho2 g cap (by simpa[Ob.cs]using hown) (by simpa using hgr)
    rw[HF.out]
    have hA2:Below w2.heap.size w2 (w2.alloc (Qhr #[.int .i64 k0,.string t0,.slice a' r0.length c'] 37)):=(Below.refl _ _).alloc (Qhq _) _
    have hbc:Below W1.heap.size W1 (w2.alloc (Qhr #[.int .i64 k0,.string t0,.slice a' r0.length c'] 37)):=hb2'.trans (hA2.mono hb2'.size)
    have bpA:=hbp.below hbc hbp.lt
    have koA:=hKo.below hbc hKo.lt
    have bp3:=bpA.grown hgr (Qr q0 bpA (by decide))
    have ne2:(Qhp va l.length vcap).ownBlock≠some wr.heap.size:=fun e=>by have:=(H.ob.lt _ e).2;omega
    have ko3:=koA.grown hgr ne2
    exact⟨HN,bp3.cell 0,bp3.free 0,ko3.cell 0,ko3.cell 1,ko3.cell 2⟩
   have hone:∀a' c',∀u∈[Qhw .i64 k0,.string t0,.slice a' r0.length c'],u.oneCell'=true:=fun a' c'=>Ob.one ⟨k0,t0,a',c',r0⟩
   have hnw:∀(w2:World) a' c',∀j u,[Qhw .i64 k0,.string t0,.slice a' r0.length c'][j]? =some u→(w2.alloc (Qhr #[.int .i64 k0,.string t0,.slice a' r0.length c'] 37)).cell? ((⟨w2.heap.size,0,none⟩:Addr).add j)=some u:=fun w2 a' c'=>UL ⟨k0,t0,a',c',r0⟩ _
   have hl3:l.length+1≤maxLen:=by unfold maxLen;omega
   have hl4:(l.length+1)*48≤140737488355328:=by omega
   have HLL:Hid (l.length=k):=hll
   have HH:Hid (YI w h X wr l (.slice va l.length vcap) ((obs.take k).map (QY X))):=H
   clear hA hKo hbA hbp sr H hb d1 d2 d3 hll
   refine wp_region_held_drew (S:=(fun w'=>w'.cell? ⟨wr.heap.size,0,none⟩=some (.int .i64 k0)∧w'.cell? ⟨wr.heap.size,1,none⟩=some (.string t0)∧w'.cell? ⟨wr.heap.size,2,none⟩=some (.slice ra0 r0.length rc0))) (by kernel_rfl) ⟨y0,y1,y2⟩ (fun hHeld=>?_)
   refine Qi (i:=0) (v:=?_) 16 rfl rfl (by kernel_rfl) (by kernel_rfl) (by kernel_rfl) (fun _ _ _ h=>h) (Or.inl ⟨by rfl,?_⟩) hHeld ?_
   rotate_left
   ·intro W hSw
    try dsimp only at hSw
    go_simp
    try with_reducible rfl
   simp only[Qhu,Qhs,Qht]
   refine Qi (i:=2) (v:=?_) 18 rfl rfl (by kernel_rfl) (by kernel_rfl) (by kernel_rfl) (fun _ _ _ h=>h) (Or.inl ⟨by rfl,?_⟩) hHeld ?_
   rotate_left
   ·intro W hSw
    try dsimp only at hSw
    go_simp
    try with_reducible rfl
   simp only[Qhu,Qhs,Qht]
   refine Qi (i:=3) (v:=?_) 19 rfl rfl (by kernel_rfl) (by kernel_rfl) (by kernel_rfl) (fun _ _ _ h=>h) (Or.inl ⟨by rfl,?_⟩) hHeld ?_
   rotate_left
   ·intro W hSw
    try dsimp only at hSw
    go_simp
    try with_reducible rfl
   simp only[Qhu,Qhs,Qht]
   refine Qi (i:=4) (v:=?_) 20 rfl rfl (by kernel_rfl) (by kernel_rfl) (by kernel_rfl) (fun _ _ _ h=>h) (Or.inl ⟨by rfl,?_⟩) hHeld ?_
   rotate_left
   ·intro W hSw
    try dsimp only at hSw
    go_simp
    try with_reducible rfl
   simp only[Qhu,Qhs,Qht]
   refine Qi (i:=5) (v:=?_) 21 rfl rfl (by kernel_rfl) (by kernel_rfl) (by kernel_rfl) (fun _ _ _ h=>h) (Or.inl ⟨by rfl,?_⟩) hHeld ?_
   rotate_left
   ·intro W hSw
    try dsimp only at hSw
    go_simp
    try with_reducible rfl
   simp only[Qhu,Qhs,Qht]
   refine Qi (i:=6) (v:=?_) 22 rfl rfl (by kernel_rfl) (by kernel_rfl) (by kernel_rfl) (fun _ _ _ h=>h) (Or.inl ⟨by rfl,?_⟩) hHeld ?_
   rotate_left
   ·intro W hSw
    try dsimp only at hSw
    go_simp
    try with_reducible rfl
   simp only[Qhu,Qhs,Qht]
   refine Qi (i:=7) (v:=?_) 23 rfl rfl (by kernel_rfl) (by kernel_rfl) (by kernel_rfl) (fun _ _ _ h=>h) (Or.inl ⟨by rfl,?_⟩) hHeld ?_
   rotate_left
   ·intro W hSw
    try dsimp only at hSw
    go_simp
    try with_reducible rfl
   simp only[Qhu,Qhs,Qht]
   refine Qi (i:=8) (v:=?_) 24 rfl rfl (by kernel_rfl) (by kernel_rfl) (by kernel_rfl) (fun _ _ _ h=>h) (Or.inl ⟨by rfl,?_⟩) hHeld ?_
   rotate_left
   ·intro W hSw
    try dsimp only at hSw
    go_simp
    try with_reducible rfl
   simp only[Qhu,Qhs,Qht]
   have x0d:W1.drew.cell? ⟨w.heap.size+1+1,0,none⟩=some (.slice va l.length vcap):=x0
   refine wpAnyH_ready (rs:=[1,9]) (by kernel_rfl) (by simp) ?_
   refine AllReadyH.cons (o:=_) rfl (fun K hK=>?ld) (AllReadyH.cons (o:=_) rfl (fun K hK=>?cl) AllReadyH.nil)
   case' cl=>
    go_simp
    refine c1.mono ?_
    rintro e w2 ⟨v',rfl,ho2,hb2⟩
    obtain⟨a',c',rfl,-⟩:=ho2.form
    rw[Qhx]
    obtain⟨p0,p1,p2,p3⟩:=HC.out w2 hb2
    obtain⟨hvA,hszA,p4,p5,p6,p7⟩:=HV.out w2 a' c' hb2
    go_wp2_with fail
    refine hK.out _ _ ⟨p1,p2,p3⟩ (fun hHeld2=>?_)
    clear hK K
    try simp only[Act.put,Qhu,Qhs,Qht]
    refine Qi (i:=10) (v:=?_) 26 rfl rfl (by kernel_rfl) (by kernel_rfl) (by kernel_rfl) (fun _ _ _ h=>h) (Or.inl ⟨by rfl,?_⟩) ⟨p1,p2,p3⟩ ?_
    rotate_left
    ·intro W hSw
     try dsimp only at hSw
     go_simp
     try with_reducible rfl
    simp only[Qhu,Qhs,Qht]
    refine wpAnyH_ready (rs:=[1,11]) (by kernel_rfl) (by simp) ?_
    refine AllReadyH.cons (o:=_) rfl (fun K hK=>?l1) (AllReadyH.cons (o:=_) rfl (fun K hK=>?b1) AllReadyH.nil)
   case' l1=>
    go_simp
    refine hK.out _ _ ⟨p1,p2,p3⟩ (fun _=>?_)
    clear hK K
    try simp only[Act.put,Qhu,Qhs,Qht]
    refine wpAnyH_ready (rs:=[11]) (by kernel_rfl) (by simp) ?_
    refine AllReadyH.cons (o:=_) rfl (fun K hK=>?_) AllReadyH.nil
    go_simp
    refine hK.out _ _ ⟨p5,p6,p7⟩ (fun _=>?_)
    clear hK K
    try simp only[Act.put,Qhu,Qhs,Qht]
   case' b1=>
    go_simp
    refine hK.out _ _ ⟨p5,p6,p7⟩ (fun _=>?_)
    clear hK K
    try simp only[Act.put,Qhu,Qhs,Qht]
    refine wpAnyH_ready (rs:=[1]) (by kernel_rfl) (by simp) ?_
    refine AllReadyH.cons (o:=_) rfl (fun K hK=>?_) AllReadyH.nil
    go_simp
    refine hK.out _ _ ⟨p5,p6,p7⟩ (fun _=>?_)
    clear hK K
    try simp only[Act.put,Qhu,Qhs,Qht]
   case' ld=>
    go_simp
    refine hK.out _ _ ⟨y0,y1,y2⟩ (fun _=>?_)
    clear hK K
    try simp only[Act.put,Qhu,Qhs,Qht]
    refine wpAnyH_ready (rs:=[9]) (by kernel_rfl) (by simp) ?_
    refine AllReadyH.cons (o:=_) rfl (fun K hK=>?_) AllReadyH.nil
    go_simp
    refine c1.mono ?_
    rintro e w2 ⟨v',rfl,ho2,hb2⟩
    obtain⟨a',c',rfl,-⟩:=ho2.form
    rw[Qhx]
    obtain⟨p0,p1,p2,p3⟩:=HC.out w2 hb2
    obtain⟨hvA,hszA,p4,p5,p6,p7⟩:=HV.out w2 a' c' hb2
    go_wp2_with fail
    refine hK.out _ _ ⟨p1,p2,p3⟩ (fun hHeld2=>?_)
    clear hK K
    try simp only[Act.put,Qhu,Qhs,Qht]
    refine Qi (i:=10) (v:=?_) 26 rfl rfl (by kernel_rfl) (by kernel_rfl) (by kernel_rfl) (fun _ _ _ h=>h) (Or.inl ⟨by rfl,?_⟩) ⟨p1,p2,p3⟩ ?_
    rotate_left
    ·intro W hSw
     try dsimp only at hSw
     go_simp
     try with_reducible rfl
    simp only[Qhu,Qhs,Qht]
    refine wpAnyH_ready (rs:=[11]) (by kernel_rfl) (by simp) ?_
    refine AllReadyH.cons (o:=_) rfl (fun K hK=>?_) AllReadyH.nil
    go_simp
    refine hK.out _ _ ⟨p5,p6,p7⟩ (fun _=>?_)
    clear hK K
    try simp only[Act.put,Qhu,Qhs,Qht]
   all_goals
    refine wpAnyH_ready (rs:=[12]) (by kernel_rfl) (by simp) ?_
    refine AllReadyH.cons (o:=_) rfl (fun K hK=>?_) AllReadyH.nil
    refine step_append_lies _ rfl _ _ 23 rfl w.heap.size 37 i0 _ 3 48 ((Cut.under_eq 23).trans Tryz.underlying23) hi hz0 hz1 hz2 rfl (by decide) _ _ _ rfl hvA ⟨w2.heap.size,0,none⟩ 1 1 [.int .i64 k0,.string t0,.slice a' r0.length c'] rfl rfl (hnw _ _ _) (hone _ _) (by decide) hl3 hl4 hszA _ rfl ?_
    intro g cap w3 hown3 hgrow hat hlt3
    obtain⟨hEnd,s1,s2,s3,s4,s5⟩:=HE.out w2 a' c' g cap w3 hb2 ho2 hown3 hgrow
    refine hK.out _ _ ⟨s3,s4,s5⟩ (fun _=>?_)
    clear hK K
    simp only[Act.put,List.getElem_toArray,List.getElem_cons_zero,List.getElem_cons_succ,Qhu,Qhs,Qht]
    refine Qi (i:=13) (v:=?_) 29 rfl rfl (by kernel_rfl) (by kernel_rfl) (by kernel_rfl) (fun _ _ _ h=>h) (Or.inl ⟨by rfl,?_⟩) ⟨s3,s4,s5⟩ ?_
    rotate_left
    ·intro W hSw
     try dsimp only at hSw
     go_simp
     try with_reducible rfl
    simp only[Qhu,Qhs,Qht]
    refine wpAnyH_ready (rs:=[14]) (by kernel_rfl) (by simp) ?_
    refine AllReadyH.cons (o:=_) rfl (fun K hK=>?_) AllReadyH.nil
    go_simp
    refine hK.out _ _ (by go_keep) (fun _=>?_)
    clear hK K
    try simp only[Act.put]
    refine wpAnyH_done (by kernel_rfl) ?_ _
    clear hown3 hgrow hat hvA HE HV HC c1
    go_wp2
    go_roundw
    case rel=>exact⟨k+1,_,_,by omega,by go_num,hEnd⟩
    case measure=>simp[intOf];omega
  ·have ek:obs.take k=obs:=List.take_of_length_le (by omega)
   rw[ek]at H
   have hb:=H.be
   have hmp:=H.mp
   obtain⟨va,vcap,rfl,-,-⟩:=H.ob.form
   have c1:=Qbg n X h.ra h.rcap h.rs ya ycap wr (hh.sr.below hb (Qhq _)) hs.r (hy.below hb (Qhq _)) hro
   obtain⟨x0,x1,x2,x3⟩:=QB H.bh
   clear ek
   go_wp2_with fail
   refine c1.mono ?_
   rintro e w1 ⟨v1,rfl,ho1,hb1⟩
   generalize hR:h.rs.map (wh X)=R at ho1
   have HR:Hid (h.rs.map (wh X)=R):=hR
   clear hR
   obtain⟨a1,p1,rfl,-⟩:=ho1.form
   have bp1:=H.bp.below hb1 H.bp.lt
   have bh1:=H.bh.below hb1 H.bh.lt
   have br1:=H.br.below hb1 H.br.lt
   clear c1 x0 x1 x2 x3
   obtain⟨x0,x1,x2,x3⟩:=QB bh1
   have y1:=bp1.cell 1
   have f1:=bp1.free 1
   simp only[QhA,QhB]at y1
   have bp1s:=bp1.store 1 (.slice a1 R.length p1)
   have bh1s:=bh1.other ⟨w.heap.size+1+1,1,none⟩ (.slice a1 R.length p1) (by dsimp only;omega)
   have br1s:=br1.other ⟨w.heap.size+1+1,1,none⟩ (.slice a1 R.length p1) (by dsimp only;omega)
   have kt1:Qh 27 wr (w1.setCell ⟨w.heap.size+1+1,1,none⟩ (.slice a1 R.length p1)):=(Qh.below _ hb1 (Qhq _)).trans (Qh.set bp1 1 _)
   have kr1:Qh 27 w1 (w1.setCell ⟨w.heap.size+1+1,1,none⟩ (.slice a1 R.length p1)):=Qh.set bp1 1 _
   have hB1:Below w.heap.size w (w1.setCell ⟨w.heap.size+1+1,1,none⟩ (.slice a1 R.length p1)):=(hb.trans (hb1.mono hb.size)).setCell (by dsimp only;omega) _
   have hr1:Qa (w1.setCell ⟨w.heap.size+1+1,1,none⟩ (.slice a1 R.length p1)) wr.heap.size (.slice a1 R.length p1) R:=Qm ho1 kr1 (by decide)
   have c2:=Qba n X h.wa h.wcap h.ws ya ycap _ (hh.sw.below hB1 (Qhq _)) hs.w (hy.below hB1 (Qhq _)) hwo
   have sz1:wr.heap.size≤w1.heap.size:=hb1.size
   clear ho1 kr1
   go_wp2_with fail
   refine c2.mono ?_
   rintro e w2 ⟨v2,rfl,ho2,hb2⟩
   obtain⟨a2,p2,rfl,-⟩:=ho2.form
   have bp2:=bp1s.below hb2 bp1s.lt
   have bh2:=bh1s.below hb2 bh1s.lt
   have br2:=br1s.below hb2 br1s.lt
   clear c2 x0 x1 x2 x3 y1 f1 bp1 bh1 br1 bp1s bh1s br1s
   obtain⟨x0,x1,x2,x3⟩:=QB bh2
   have y1:=bp2.cell 2
   have f1:=bp2.free 2
   simp only[Qht,Qhs,QhA,QhB]at y1
   have bp2s:=bp2.store 2 (.slice a2 (Qo h.ws X).length p2)
   have bh2s:=bh2.other ⟨w.heap.size+1+1,2,none⟩ (.slice a2 (Qo h.ws X).length p2) (by dsimp only;omega)
   have br2s:=br2.other ⟨w.heap.size+1+1,2,none⟩ (.slice a2 (Qo h.ws X).length p2) (by dsimp only;omega)
   have ks2:Qh 27 _ (w2.setCell ⟨w.heap.size+1+1,2,none⟩ (.slice a2 (Qo h.ws X).length p2)):=(Qh.below _ hb2 (Qhq _)).trans (Qh.set bp2 2 _)
   have kt2:=kt1.trans ks2
   have kr2:Qh 27 w2 (w2.setCell ⟨w.heap.size+1+1,2,none⟩ (.slice a2 (Qo h.ws X).length p2)):=Qh.set bp2 2 _
   have hB2:Below w.heap.size w (w2.setCell ⟨w.heap.size+1+1,2,none⟩ (.slice a2 (Qo h.ws X).length p2)):=(hB1.trans (hb2.mono hB1.size)).setCell (by dsimp only;omega) _
   have hr2:=Qm hr1 ks2 (by decide)
   have hw2:Qe (w2.setCell ⟨w.heap.size+1+1,2,none⟩ (.slice a2 (Qo h.ws X).length p2)) _ (.slice a2 (Qo h.ws X).length p2) (Qo h.ws X):=Qm ho2 kr2 (by decide)
   have c3:=Qba n X h.da h.dcap h.ds ya ycap _ (hh.sd.below hB2 (Qhq _)) hs.d (hy.below hB2 (Qhq _)) hdo
   have sz2:w1.heap.size≤w2.heap.size:=by have:=hb2.size;simpa[World.setCell]using this
   clear ho2 kr2 kt1 ks2 hB1 hb2 hr1
   go_wp2_with fail
   refine c3.mono ?_
   rintro e w3 ⟨v3,rfl,ho3,hb3⟩
   obtain⟨a3,p3,rfl,-⟩:=ho3.form
   have bp3:=bp2s.below hb3 bp2s.lt
   have bh3:=bh2s.below hb3 bh2s.lt
   have br3:=br2s.below hb3 br2s.lt
   clear c3 x0 x1 x2 x3 y1 f1 bp2 bh2 br2 bp2s bh2s br2s
   obtain⟨r0,r1,r2,r3⟩:w3.cell? ⟨w.heap.size+1,0,none⟩=some (.slice none 0 0)∧w3.cell? ⟨w.heap.size+1,1,none⟩=some (.slice none 0 0)∧w3.cell? ⟨w.heap.size+1,2,none⟩=some (.slice none 0 0)∧w3.cell? ⟨w.heap.size+1,3,none⟩=some (.slice none 0 0):=⟨br3.cell 0,br3.cell 1,br3.cell 2,br3.cell 3⟩
   have f0:=br3.free 0
   have f1:=br3.free 1
   have f2:=br3.free 2
   have f3:=br3.free 3
   obtain⟨y0,y1,y2,y3⟩:w3.cell? ⟨w.heap.size+1+1,0,none⟩=some (.slice va l.length vcap)∧w3.cell? ⟨w.heap.size+1+1,1,none⟩=some (.slice a1 R.length p1)∧w3.cell? ⟨w.heap.size+1+1,2,none⟩=some (.slice a2 (Qo h.ws X).length p2)∧w3.cell? ⟨w.heap.size+1+1,3,none⟩=some (.slice none 0 0):=⟨bp3.cell 0,bp3.cell 1,bp3.cell 2,bp3.cell 3⟩
   have g3:=bp3.free 3
   have bp3s:=bp3.store 3 (.slice a3 (Qo h.ds X).length p3)
   have br3s:=br3.other ⟨w.heap.size+1+1,3,none⟩ (.slice a3 (Qo h.ds X).length p3) (by dsimp only;omega)
   have ks3:Qh 27 _ (w3.setCell ⟨w.heap.size+1+1,3,none⟩ (.slice a3 (Qo h.ds X).length p3)):=(Qh.below _ hb3 (Qhq _)).trans (Qh.set bp3 3 _)
   have kt3:=kt2.trans ks3
   have kr3:Qh 27 w3 (w3.setCell ⟨w.heap.size+1+1,3,none⟩ (.slice a3 (Qo h.ds X).length p3)):=Qh.set bp3 3 _
   have hB3:Below w.heap.size w (w3.setCell ⟨w.heap.size+1+1,3,none⟩ (.slice a3 (Qo h.ds X).length p3)):=(hB2.trans (hb3.mono hB2.size)).setCell (by dsimp only;omega) _
   have hOP:Q5 (w3.setCell ⟨w.heap.size+1+1,3,none⟩ (.slice a3 (Qo h.ds X).length p3)) w.heap.size ⟨va,vcap,l,a1,p1,R,a2,p2,Qo h.ws X,a3,p3,Qo h.ds X⟩:=by
    have b0:=hb.size
    refine⟨Qm H.ob kt3 (by decide),H.rs.keep kt3,(Qa.base (Qm hr2 ks3 (by decide)) b0),fun i hi a b ha hb'=>?_,Qe.base (Qm hw2 ks3 (by decide)) (by simpa[World.setCell]using Qhv b0 sz1),Qe.base (Qm ho3 kr3 (by decide)) (by simpa[World.setCell]using Qhv b0 (Qhv sz1 sz2)),fun a b ha hb'=>?_⟩
    ·have h1:=(H.rs.lt i hi a ha).2
     have h2:=(Qa.lt hr2 b hb').1
     omega
    ·have h1:=(Qe.lt hw2 a ha).2
     have h2:=(Qe.lt ho3 b hb').1
     omega
   obtain⟨kq,bq⟩:=Q8 br3s (.slice va l.length vcap) (.slice a1 R.length p1) (.slice a2 (Qo h.ws X).length p2) (.slice a3 (Qo h.ds X).length p3)
   have hOQ:=hOP.keep kq
   have hBQ:=Z0 hB3 (C:=w.heap.size+1) (by omega) (.slice va l.length vcap) (.slice a1 R.length p1) (.slice a2 (Qo h.ws X).length p2) (.slice a3 (Qo h.ds X).length p3)
   obtain⟨z0,z1,z2,z3⟩:=Qc bq
   have HMP:Hid (l.map Ob.p=obs.map (QY X)):=hmp
   clear bp3 bh3 br3 bp3s br3s ks3 kt3 kr3 kt2 hB2 hb3 hr2 hw2 ho3 kq bq hOP hB3 H hb hmp
   go_wp2
   refine bodyPost_ret (v:=.agg #[.slice va l.length vcap,.slice a1 R.length p1,.slice a2 (Qo h.ws X).length p2,.slice a3 (Qo h.ds X).length p3]) ?_ rfl ⟨⟨va,vcap,l,a1,p1,R,a2,p2,Qo h.ws X,a3,p3,Qo h.ds X⟩,rfl,?_,hOQ,hBQ⟩
   ·simp[results,Tryz.results80,go_sem,z0,z1,z2,z3]
   ·simp only[Hp.p,HMP.out,HR.out]
def pick (os:List Ob)(X:List Int):List Ob:=X.map fun p=>os.getD p.toNat Ob.zero
theorem YB (os:List Ob)(X:List Int):(pick os X).length=X.length:=by simp[pick]
theorem O5 {os:List Ob}{X:List Int}{i:Nat}(hi:i<(pick os X).length)(hx:i<X.length)(hp:X[i].toNat<os.length):(pick os X)[i]=os[X[i].toNat]:=by
 simp[pick,QhC hp]
theorem Qfs {os:List Ob}{X:List Int}{k:Nat}(hk:k<X.length)(hp:X[k].toNat<os.length):pick os (X.take (k+1))=pick os (X.take k)++ [os[X[k].toNat]]:=by
 unfold pick
 rw[QhD hk,Qhy]
 simp[QhC hp]
theorem O6 {os:List Ob}{X Y:List Int}(hp:∀z∈X,0≤z∧z<os.length):(pick os X).map (QY Y)=X.map (Vs (os.map Ob.p) Y):=by
 unfold pick
 rw[List.map_map]
 refine List.map_congr_left fun z hz=>?_
 have h:=hp z hz
 have h1:z.toNat<os.length:=by omega
 rw[Qfb rfl h1]
 simp[QY,QhC h1]
theorem Qff {h:Hp}(hok:okP h.p=true)(i:Nat)(hi:i<h.os.length):∀z∈h.os[i].r,-1≤z∧z<h.os.length:=by
 have h1:=(JS hok).2.2.2.1 i hi
 simp only[Qs,Bool.and_eq_true]at h1
 exact Yf h1.1
theorem Uk {h:Hp}{l:List (Int×Int)}(hl:∀p∈l,Qp (h.os.map Ob.p) p=true):∀p∈l,(0≤p.1∧p.1<(h.os.length:Int))∧(0≤p.2∧p.2<(h.os.length:Int)):=fun p hp=>by
 have h1:=hl p hp
 simp only[Qp,inB,Bool.and_eq_true,decide_eq_true_eq,Qhx]at h1
 omega
def Y0 (w:World)(h:Hp):Prop:=∃B,Q5 w B h
theorem Y0.step {w w':World}{h:Hp}(hh:Y0 w h)(hb:Below w.heap.size w w'):Y0 w' h:=by
 obtain⟨B,q⟩:=hh
 exact⟨B,q.below hb (Qhq _)⟩
theorem Y0.keep {w w':World}{h:Hp}(hh:Y0 w h)(hk:Qh 27 w w'):Y0 w' h:=by
 obtain⟨B,q⟩:=hh
 exact⟨B,q.keep hk⟩
theorem Blk.step {w w':World}{B t:Nat}{cs:List Value}(h:Blk w B cs t)(hb:Below w.heap.size w w'):Blk w' B cs t:=h.below hb h.lt
theorem QH {w:World}{B t:Nat}{cs:List Value}(h:Blk w B cs t):w.frozen? ⟨B,0,none⟩=false∧w.frozen? ⟨B,1,none⟩=false∧w.frozen? ⟨B,2,none⟩=false∧w.frozen? ⟨B,3,none⟩=false:=⟨h.free 0,h.free 1,h.free 2,h.free 3⟩
structure ZM where
 b0:Bool
 b3:Bool
 b4:Bool
 b7:Bool
 b8:Bool
 b11:Bool
 b12:Bool
 b13:Bool
 b14:Bool
 s3:Value
 s5:Value
 s8:Value
 s9:Value
 s12:Value
 s13:Value
 s16:Value
 s17:Value
def ZM.arr (s:ZM):Array Bool:=#[s.b0,true,true,s.b3,s.b4,true,true,s.b7,s.b8,true,true,s.b11,s.b12,s.b13,s.b14]
def ZI (u v:Value):Prop:=∀k,u.ownBlock=some k→v.ownBlock≠some k
structure CpW (w0:World) (h:Hp) (s:ZM) (W:World):Prop where
 be:Below w0.heap.size w0 W
 bh:Blk W w0.heap.size [Qhp h.oa h.os.length h.ocap,Qhp h.ra h.rs.length h.rcap,Qhp h.wa h.ws.length h.wcap,Qhp h.da h.ds.length h.dcap] 27
 br:Blk W (w0.heap.size+1) [Qhp none 0 0,Qhp none 0 0,Qhp none 0 0,Qhp none 0 0] 27
 f0:s.b0=true→s.b3=false→Qa W w0.heap.size s.s5 []
 f3:s.b3=true→Qa W w0.heap.size s.s8 h.rs
 f4:s.b4=true→s.b7=false→Qe W w0.heap.size s.s9 []
 f7:s.b7=true→Qe W w0.heap.size s.s12 h.ws
 f8:s.b8=true→s.b11=false→Qe W w0.heap.size s.s13 []
 f11:s.b11=true→Qe W w0.heap.size s.s16 h.ds
 f12:s.b12=true→s.s17=.agg #[.slice none 0 0,s.s8,s.s12,s.s16]
 f13:s.b13=true→∃g,s.s3=.pointer (some ⟨g,0,none⟩)∧w0.heap.size+1+1≤g∧Blk W g (if s.b14=true then [.slice none 0 0,s.s8,s.s12,s.s16]else [Qhp none 0 0,Qhp none 0 0,Qhp none 0 0,Qhp none 0 0]) 27
 d48:s.b4=true→s.b7=false→s.b8=true→s.b11=false→ZI s.s9 s.s13
 d78:s.b7=true→s.b8=true→s.b11=false→ZI s.s12 s.s13
 d711:s.b7=true→s.b11=true→ZI s.s12 s.s16
 o30:s.b3=true→s.b0=true
 o74:s.b7=true→s.b4=true
 o118:s.b11=true→s.b8=true∧s.b7=true
 o12:s.b12=true→s.b3=true∧s.b7=true∧s.b11=true
 o14:s.b14=true→s.b12=true∧s.b13=true
theorem CpW.step {w0:World}{h:Hp}{s:ZM}{W W':World}(c:CpW w0 h s W)(hb:Below W.heap.size W W'):CpW w0 h s W' where
 be:=c.be.trans (hb.mono c.be.size)
 bh:=c.bh.step hb
 br:=c.br.step hb
 f0:=fun h1 h2=>(c.f0 h1 h2).below hb (Qhq _)
 f3:=fun h1=>(c.f3 h1).below hb (Qhq _)
 f4:=fun h1 h2=>(c.f4 h1 h2).below hb (Qhq _)
 f7:=fun h1=>(c.f7 h1).below hb (Qhq _)
 f8:=fun h1 h2=>(c.f8 h1 h2).below hb (Qhq _)
 f11:=fun h1=>(c.f11 h1).below hb (Qhq _)
 f12:=c.f12
 f13:=fun h1=>by
  obtain⟨g,e1,e2,e3⟩:=c.f13 h1
  exact⟨g,e1,e2,e3.step hb⟩
 d48:=c.d48
 d78:=c.d78
 d711:=c.d711
 o30:=c.o30
 o74:=c.o74
 o118:=c.o118
 o12:=c.o12
 o14:=c.o14
theorem QK {W W':World}{base e size n base' e' size' n':Nat}{v v':Value}{xs xs':List Value}(h:W.ownsRow base e size v n xs)(h':W.ownsRow base' e' size' v' n' xs')(hg:W.grownBy W' v'.ownBlock)(he:e≠e'):W'.ownsRow base e size v n xs:=World.ownsRow.kept h hg (Um h h' he)
theorem YC {W W':World}{base e size n:Nat}{v v':Value}{xs:List Value}(h:W.ownsRow base e size v n xs)(hg:W.grownBy W' v'.ownBlock)(hap:ZI v v'):W'.ownsRow base e size v n xs:=World.ownsRow.kept h hg (by
 cases hv:v.ownBlock with
 |none=>exact Or.inl rfl
 |some k=>exact Or.inr fun e=>hap k hv e.symm)
theorem ZI.symm {u v:Value}(h:ZI u v):ZI v u:=fun k hk e=>h k e hk
theorem VS {W:World}{base e size n g c m:Nat}{v:Value}{xs:List Value}(h:W.ownsRow base e size v n xs)(hg:W.heap.size≤g):ZI v (.slice (some ⟨g,0,none⟩) m c):=fun k hk e=>by
 have:=(h.lt k hk).2
 simp[Value.ownBlock]at e
 omega
theorem Y2 {W:World}{base e size n:Nat}{u v v':Value}{xs:List Value}(hu:W.ownsRow base e size u n xs)(hap:ZI u v)(hat:v'.ownBlock=v.ownBlock∨v'.ownBlock=some W.heap.size):ZI u v':=fun k hk e=>by
 rcases hat with h|h
 ·exact hap k hk (h▸e)
 ·rw[h]at e
  have:=(hu.lt k hk).2
  simp at e
  omega
structure Ql (w:World) (B:Nat) (h:Hp):Prop where
 ob:Qu w B (.slice h.oa h.os.length h.ocap) h.os
 rs:∀i (hi:i<h.os.length),Qa w B h.os[i].rv h.os[i].r
 rne:∀i j (hi:i<h.os.length) (hj:j<h.os.length),i≠j→ZI h.os[i].rv h.os[j].rv
 ro:Qa w B (.slice h.ra h.rs.length h.rcap) h.rs
 rro:∀i (hi:i<h.os.length),ZI h.os[i].rv (.slice h.ra h.rs.length h.rcap)
 wa:Qe w B (.slice h.wa h.ws.length h.wcap) h.ws
 da:Qe w B (.slice h.da h.ds.length h.dcap) h.ds
 wne:ZI (.slice h.wa h.ws.length h.wcap) (.slice h.da h.ds.length h.dcap)
theorem Ql.isIn {w:World}{B:Nat}{h:Hp}(hh:Ql w B h):Qg w h:=by
 refine⟨?_,?_,?_,?_⟩
 ·obtain⟨a,cap,e,_,hs⟩:=hh.ob.form
  simp only[Value.slice.injEq]at e
  rw[e.1]
  refine hs fun i hi=>?_
  obtain⟨a,cap,e,hs,_⟩:=(hh.rs i hi).form
  simp only[Ob.rv,Value.slice.injEq]at e
  rw[e.1];exact hs
 ·obtain⟨a,cap,e,hs,_⟩:=hh.ro.form
  simp only[Value.slice.injEq]at e
  rw[e.1];exact hs
 ·obtain⟨a,cap,e,hs,_⟩:=hh.wa.form
  simp only[Value.slice.injEq]at e
  rw[e.1];exact hs
 ·obtain⟨a,cap,e,hs,_⟩:=hh.da.form
  simp only[Value.slice.injEq]at e
  rw[e.1];exact hs
theorem Ql.below {w w':World}{B C:Nat}{h:Hp}(hh:Ql w B h)(hb:Below C w w')(hC:w.heap.size≤C):Ql w' B h:=
 ⟨hh.ob.below hb hC,fun i hi=>(hh.rs i hi).below hb hC,hh.rne,hh.ro.below hb hC,hh.rro,hh.wa.below hb hC,hh.da.below hb hC,hh.wne⟩
theorem Ql.keep {A C:World}{B:Nat}{h:Hp}(hh:Ql A B h)(hk:Qh 27 A C):Ql C B h:=
 ⟨Qm hh.ob hk (by decide),fun i hi=>Qm (hh.rs i hi) hk (by decide),hh.rne,Qm hh.ro hk (by decide),hh.rro,Qm hh.wa hk (by decide),Qm hh.da hk (by decide),hh.wne⟩
end
end Go.Proofs.YtcpnkpogebjieaaGreat
