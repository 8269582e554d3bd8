/- The program's own placedBy: a heap with just these objects of it, all places told by -/
import Derived.Test.YtcpnkpogebjieaaGreatS17Ca
import Derived.Test.YtcpnkpogebjieaaGreatS27Ss4
open Go.Value renaming slice→QhR,int→QhX,string→QhY
open Go.Obj renaming cells→QhS
open Nat renaming le_refl→QhT,le_trans→QhZ
open List renaming set_cons_zero→QhU,set_cons_succ→QhV,setIfInBounds_toArray→QhW,length_map→Qh0,map_append→Qh1,getElem?_cons_zero→Qh2,getElem?_cons_succ→Qh3,getElem?_eq_getElem→Qh4,take_succ_eq_append_getElem→Qh5,take_of_length_le→Qh6
set_option maxHeartbeats 3000000
set_option maxRecDepth 100000
namespace Go.Proofs.YtcpnkpogebjieaaGreat
section
open Go.RowKit
structure YR (w:World) (h:Hp) (X:List Int) (wr:World) (l:List Ob) (vo:Value) (ps:List (Int×ByteArray×List Int)):Prop where
 mp:l.map Ob.p=ps
 bp:Blk wr (w.heap.size+1+1) [vo,.slice none 0 0,.slice none 0 0,.slice none 0 0] 27
 ob:Qw wr w.heap.size vo l
 rs:QN wr w.heap.size l
 be:Below w.heap.size w wr
 bh:Blk wr w.heap.size [QhR h.oa h.os.length h.ocap,QhR h.ra h.rs.length h.rcap,QhR h.wa h.ws.length h.wcap,QhR h.da h.ds.length h.dcap] 27
 br:Blk wr (w.heap.size+1) [.slice none 0 0,.slice none 0 0,.slice none 0 0,.slice none 0 0] 27
theorem Qb {w:World}{B t:Nat}{c0 c1 c2 c3:Value}(hk:Blk w B [c0,c1,c2,c3] t):
 w.cell? ⟨B,0,none⟩=some c0∧w.cell? ⟨B,1,none⟩=some c1∧w.cell? ⟨B,2,none⟩=some c2∧w.cell? ⟨B,3,none⟩=some c3:=
 ⟨hk.cell 0,hk.cell 1,hk.cell 2,hk.cell 3⟩
theorem YR.next {w:World}{h:Hp}{X:List Int}{wr W1 w2 w3:World}{l:List Ob}{va:Option Addr}{vcap:Nat}{ps:List (Int×ByteArray×List Int)}(H:YR w h X wr l (.slice va l.length vcap) ps)(o:Ob)(hW1:Below wr.heap.size wr W1)(h2:Below W1.heap.size W1 w2)(ho:Qa w2 W1.heap.size o.rv o.r)
 (g cap:Nat)(hown:w3.ownsRow w.heap.size 37 3 (.slice (some ⟨g,0,none⟩) (l.length+1) cap) (l.length+1) (l.flatMap Ob.cs++o.cs))(hg:(w2.alloc (QhS #[.int .i64 o.k,.string o.t,.slice o.ra o.r.length o.rcap] 37)).grownBy w3 (QhR va l.length vcap).ownBlock):
 YR w h X (w3.setCell ⟨w.heap.size+1+1,0,none⟩ (.slice (some ⟨g,0,none⟩) (l.length+1) cap)) (l++ [o]) (.slice (some ⟨g,0,none⟩) (l.length+1) cap) (ps++ [o.p]):=by
 have hA:Below w2.heap.size w2 (w2.alloc (QhS #[.int .i64 o.k,.string o.t,.slice o.ra o.r.length o.rcap] 37)):=(Below.refl _ _).alloc (QhT _) _;have b1:Below wr.heap.size wr w2:=hW1.trans (h2.mono hW1.size);have b2:Below wr.heap.size wr (w2.alloc (QhS #[.int .i64 o.k,.string o.t,.slice o.ra o.r.length o.rcap] 37)):=b1.trans (hA.mono b1.size);have b3:=H.be.trans (b2.mono H.be.size);have ob2:=H.ob.below b2 (QhT _);have rs2:=H.rs.below b2 (QhT _);have ro2:=(ho.below hA (QhT _)).base (C:=w.heap.size) (QhZ H.be.size hW1.size);have bp2:=H.bp.below b2 H.bp.lt;have bh2:=H.bh.below b2 H.bh.lt;have br2:=H.br.below b2 H.br.lt;have bp3:=bp2.grown hg (Qs ob2 bp2 (by decide));have hown':Qw w3 w.heap.size (.slice (some ⟨g,0,none⟩) (l.length+1) cap) (l++ [o]):=by unfold Qw;simpa using hown
 have rs3:=rs2.grown ob2 (by decide) hg;have ro3:=ro2.kept hg (UB ro2 ob2 (by decide));refine⟨by rw[Qh1,H.mp];rfl,bp3.store 0 _,ownsRow_setCell_other hown' (Qs hown' bp3 (by decide)) _,?_,?_,?_,?_⟩
 ·refine(rs3.snoc o ro3 fun i hi a b ha hb=>?_).set bp3 (by decide) 0 _;have h1:=(H.rs.lt i hi a ha).2;have h2':=(ho.lt b hb).1;have:=hW1.size;omega
 ·refine(b3.trans (QJ hg b3.size (fun k e=>(ob2.lt k e).1))).setCell (by dsimp only;omega) _
 ·exact(bh2.grown hg (Qs ob2 bh2 (by decide))).other _ _ (by dsimp only;omega)
 ·exact(br2.grown hg (Qs ob2 br2 (by decide))).other _ _ (by dsimp only;omega)
theorem QaF (h:Hp)(oa:Option Addr)(ocap:Nat)(obs:List Ob)(n:Nat)(X:List Int)(ya:Option Addr)(ycap:Nat)(w:World)(hh:Qj w h)(hs:ZV h)(hob:ZE w oa obs)(hol:obs.length≤1048576)(hrl:∀i (hi:i<obs.length),obs[i].r.length≤1048576)
 (hor:∀i (hi:i<obs.length),∀z∈obs[i].r,-1≤z∧z<n)(hy:Qi w ya (whs X n))(hro:∀z∈h.rs,-1≤z∧z<n)(hwo:∀p∈h.ws,(0≤p.1∧p.1<n)∧(0≤p.2∧p.2<n))(hdo:∀p∈h.ds,(0≤p.1∧p.1<n)∧(0≤p.2∧p.2<n)):
 Calls Cut.prog 80 #[h.v,.slice oa obs.length ocap,.slice ya n ycap] w fun e w'=>∃h':Hp,e=.returned h'.v∧h'.p=(obs.map (QI X),h.rs.map (wh X),Qg h.ws X,Qg h.ds X)∧Q4 w' w.heap.size h'∧Below w.heap.size w w':=by
 obtain⟨i0,hi,hz0,hz1,hz2⟩:=info_parts YT;simp only[Hp.v];go_enter (Cut.func_of Tryz.func80 rfl),Tryz.ntmps80;go_wp2
 have H0:YR w h X (((w.alloc (QhS #[QhR h.oa h.os.length h.ocap,QhR h.ra h.rs.length h.rcap,QhR h.wa h.ws.length h.wcap,QhR h.da h.ds.length h.dcap] 27)).alloc (QhS #[QhR none 0 0,QhR none 0 0,QhR none 0 0,QhR none 0 0] 27)).alloc (QhS #[QhR none 0 0,QhR none 0 0,QhR none 0 0,QhR none 0 0] 27)) [] (.slice none 0 0) ((obs.take 0).map (QI X)):=by
  refine⟨rfl,?_,World.ownsRow_nil _ _ _ _,QN.nil _ _,(((Below.refl _ _).alloc (QhT _) _).alloc (by simp) _).alloc (by simp;omega) _,?_,?_⟩
  ·have:=Blk.new ((w.alloc (QhS #[QhR h.oa h.os.length h.ocap,QhR h.ra h.rs.length h.rcap,QhR h.wa h.ws.length h.wcap,QhR h.da h.ds.length h.dcap] 27)).alloc (QhS #[QhR none 0 0,QhR none 0 0,QhR none 0 0,QhR none 0 0] 27)) [.slice none 0 0,.slice none 0 0,.slice none 0 0,.slice none 0 0] 27;simpa using this
  ·exact((Blk.new w _ _).alloc _).alloc _
  ·have:=(Blk.new (w.alloc (QhS #[QhR h.oa h.os.length h.ocap,QhR h.ra h.rs.length h.rcap,QhR h.wa h.ws.length h.wcap,QhR h.da h.ds.length h.dcap] 27)) [.slice none 0 0,.slice none 0 0,.slice none 0 0,.slice none 0 0] 27).alloc (QhS #[QhR none 0 0,QhR none 0 0,QhR none 0 0,QhR none 0 0] 27);simpa using this
 go_loopw [9,12] (fun _ i wr=>∃(k:Nat) (l:List Ob) (vo:Value),k≤obs.length∧i=.int .i64 k∧YR w h X wr l vo ((obs.take k).map (QI X))) (fun _ i _=>obs.length-(intOf i).toNat)
 case atStart=>exact⟨0,[],_,Nat.zero_le _,rfl,H0⟩
 case round=>
  obtain⟨k,l,vo,hk,rfl,H⟩:=hrel;clear H0;by_cases hlt:k<obs.length
  ·have hb:=H.be;have hbs:=hb.size
   have hll:l.length=k:=by
    have:=congrArg List.length H.mp;simpa[Nat.min_eq_left hk]using this
   obtain⟨b,off,rfl,hbo,e1,e2,e3⟩:=hob.get hlt;have d1:=(hb.cell (p:=⟨b,off+k*3,none⟩) hbo).trans e1;have d2:=(hb.cell (p:=⟨b,off+k*3+1,none⟩) hbo).trans e2;have d3:=(hb.cell (p:=⟨b,off+k*3+2,none⟩) hbo).trans e3;have hA:Below wr.heap.size wr (wr.alloc (QhS #[QhX .i64 obs[k].k,QhY obs[k].t,QhR obs[k].ra obs[k].r.length obs[k].rcap] 37)):=(Below.refl _ _).alloc (QhT _) _;have hKo:=Blk.new wr [QhX .i64 obs[k].k,QhY obs[k].t,QhR obs[k].ra obs[k].r.length obs[k].rcap] 37;have hbA:=hb.trans (hA.mono hb.size)
   have HF:Hid ((obs.take (k+1)).map (QI X)=(obs.take k).map (QI X)++ [QI X obs[k]]):=by
    show _=_;rw[Qh5 hlt,Qh1];rfl
   have sr:=(hob.2 k hlt).below hbA (QhT _);have hrl1:=hrl k hlt;have hor1:=hor k hlt;have hi1:(k:Int)<(obs.length:Int):=by omega
   clear e1 e2 e3;generalize obs[k]=o at *;obtain⟨k0,t0,ra0,rc0,r0⟩:=o;dsimp only at *;have HW1:∃W1,W1=wr.alloc (QhS #[QhX .i64 k0,QhY t0,QhR ra0 r0.length rc0] 37):=⟨_,rfl⟩;obtain⟨W1,hW1⟩:=HW1;go_wp2_with fail;rw[←hW1]at hA hKo hbA sr⊢;clear hW1;obtain⟨va,vcap,rfl,-,-⟩:=H.ob.form;have c1:=QbP n X ra0 rc0 r0 ya ycap W1.drew (sr.below ((Below.refl _ _).drew) (QhT _)) hrl1 (hy.below hbA.drew (QhT _)) hor1;have hbp:=H.bp.below hA H.bp.lt;have x0:=hbp.cell 0;have x0f:=hbp.free 0;have y0:=hKo.cell 0;have y1:=hKo.cell 1;have y2:=hKo.cell 2;simp only[Qh2,Qh3]at x0 y0 y1 y2;have hne:¬w.heap.size+1+1=wr.heap.size:=by have:=H.bp.lt;omega
   have hne':¬wr.heap.size=w.heap.size+1+1:=by omega
   have HC:Hid (∀w2,Below W1.drew.heap.size W1.drew w2→(w2.cell? ⟨w.heap.size+1+1,0,none⟩=some (.slice va l.length vcap)∧w2.cell? ⟨wr.heap.size,0,none⟩=some (.int .i64 k0)∧w2.cell? ⟨wr.heap.size,1,none⟩=some (.string t0)∧w2.cell? ⟨wr.heap.size,2,none⟩=some (.slice ra0 r0.length rc0))):=fun w2 hb2=>by
    have l1:w.heap.size+1+1<W1.heap.size:=hbp.lt;have l2:wr.heap.size<W1.heap.size:=hKo.lt;exact⟨(hb2.cell (p:=⟨w.heap.size+1+1,0,none⟩) l1).trans x0,(hb2.cell (p:=⟨wr.heap.size,0,none⟩) l2).trans y0,(hb2.cell (p:=⟨wr.heap.size,1,none⟩) l2).trans y1,(hb2.cell (p:=⟨wr.heap.size,2,none⟩) l2).trans y2⟩
   have HV:Hid (∀w2 a' c',Below W1.drew.heap.size W1.drew w2→(w2.alloc (QhS #[.int .i64 k0,.string t0,.slice a' r0.length c'] 37)).ownsRow w.heap.size 37 3 (.slice va l.length vcap) l.length (l.flatMap Ob.cs)∧w.heap.size≤(w2.alloc (QhS #[.int .i64 k0,.string t0,.slice a' r0.length c'] 37)).heap.size∧
    (w2.alloc (QhS #[.int .i64 k0,.string t0,.slice a' r0.length c'] 37)).cell? ⟨w.heap.size+1+1,0,none⟩=some (.slice va l.length vcap)∧(w2.alloc (QhS #[.int .i64 k0,.string t0,.slice a' r0.length c'] 37)).cell? ⟨wr.heap.size,0,none⟩=some (.int .i64 k0)∧(w2.alloc (QhS #[.int .i64 k0,.string t0,.slice a' r0.length c'] 37)).cell? ⟨wr.heap.size,1,none⟩=some (.string t0)∧(w2.alloc (QhS #[.int .i64 k0,.string t0,.slice a' r0.length c'] 37)).cell? ⟨wr.heap.size,2,none⟩=some (.slice ra0 r0.length rc0)):=fun w2 a' c' hb2=>by
    have hA2:Below w2.heap.size w2 (w2.alloc (QhS #[.int .i64 k0,.string t0,.slice a' r0.length c'] 37)):=(Below.refl _ _).alloc (QhT _) _;have hb2':Below W1.heap.size W1 w2:=((Below.refl _ _).drew).trans hb2;have hbb:Below wr.heap.size wr (w2.alloc (QhS #[.int .i64 k0,.string t0,.slice a' r0.length c'] 37)):=(hA.trans (hb2'.mono hA.size)).trans (hA2.mono (QhZ hA.size hb2'.size));have hbc:Below W1.heap.size W1 (w2.alloc (QhS #[.int .i64 k0,.string t0,.slice a' r0.length c'] 37)):=hb2'.trans (hA2.mono hb2'.size);have l2:wr.heap.size<W1.heap.size:=hKo.lt;exact⟨H.ob.below hbb (QhT _),QhZ hbs hbb.size,(hbb.cell (p:=⟨w.heap.size+1+1,0,none⟩) H.bp.lt).trans (H.bp.cell 0),(hbc.cell (p:=⟨wr.heap.size,0,none⟩) l2).trans y0,(hbc.cell (p:=⟨wr.heap.size,1,none⟩) l2).trans y1,(hbc.cell (p:=⟨wr.heap.size,2,none⟩) l2).trans y2⟩
   have HE:Hid (∀w2 a' c' g cap w3,Below W1.drew.heap.size W1.drew w2→Qa w2 W1.drew.heap.size (.slice a' (r0.map (wh X)).length c') (r0.map (wh X))→w3.ownsRow w.heap.size 37 3 (.slice (some ⟨g,0,none⟩) (l.length+1) cap) (l.length+1) (l.flatMap Ob.cs++ [.int .i64 k0,.string t0,.slice a' r0.length c'])→(w2.alloc (QhS #[.int .i64 k0,.string t0,.slice a' r0.length c'] 37)).grownBy w3 (QhR va l.length vcap).ownBlock→
    (YR w h X (w3.setCell ⟨w.heap.size+1+1,0,none⟩ (.slice (some ⟨g,0,none⟩) (l.length+1) cap)) (l++ [⟨k0,t0,a',c',r0.map (wh X)⟩]) (.slice (some ⟨g,0,none⟩) (l.length+1) cap) ((obs.take (k+1)).map (QI X)))∧(w3.cell? ⟨w.heap.size+1+1,0,none⟩=some (.slice va l.length vcap)∧w3.frozen? ⟨w.heap.size+1+1,0,none⟩=false∧w3.cell? ⟨wr.heap.size,0,none⟩=some (.int .i64 k0)∧w3.cell? ⟨wr.heap.size,1,none⟩=some (.string t0)∧w3.cell? ⟨wr.heap.size,2,none⟩=some (.slice ra0 r0.length rc0))):=fun w2 a' c' g cap w3 hb2 ho2 hown hgr=>by
    have hb2':Below W1.heap.size W1 w2:=((Below.refl _ _).drew).trans hb2;obtain⟨q0,q1,q2,q3,q4,q5⟩:=HV.out w2 a' c' hb2;have lr:(r0.map (wh X)).length=r0.length:=Qh0 _;have HN:=H.next ⟨k0,t0,a',c',r0.map (wh X)⟩ hA hb2' ho2 g cap (by simpa[Ob.cs]using hown) (by simpa using hgr);rw[HF.out];have hA2:Below w2.heap.size w2 (w2.alloc (QhS #[.int .i64 k0,.string t0,.slice a' r0.length c'] 37)):=(Below.refl _ _).alloc (QhT _) _;have hbc:Below W1.heap.size W1 (w2.alloc (QhS #[.int .i64 k0,.string t0,.slice a' r0.length c'] 37)):=hb2'.trans (hA2.mono hb2'.size);have bpA:=hbp.below hbc hbp.lt;have koA:=hKo.below hbc hKo.lt;have bp3:=bpA.grown hgr (Qs q0 bpA (by decide));have ne2:(QhR va l.length vcap).ownBlock≠some wr.heap.size:=fun e=>by have:=(H.ob.lt _ e).2;omega
    have ko3:=koA.grown hgr ne2;exact⟨HN,bp3.cell 0,bp3.free 0,ko3.cell 0,ko3.cell 1,ko3.cell 2⟩
   have hone:∀a' c',∀u∈[QhX .i64 k0,.string t0,.slice a' r0.length c'],u.oneCell'=true:=fun a' c'=>Ob.one ⟨k0,t0,a',c',r0⟩;have hnw:∀(w2:World) a' c',∀j u,[QhX .i64 k0,.string t0,.slice a' r0.length c'][j]? =some u→(w2.alloc (QhS #[.int .i64 k0,.string t0,.slice a' r0.length c'] 37)).cell? ((⟨w2.heap.size,0,none⟩:Addr).add j)=some u:=fun w2 a' c'=>Uz ⟨k0,t0,a',c',r0⟩ _;have hl3:l.length+1≤maxLen:=by unfold maxLen;omega
   have hl4:(l.length+1)*48≤140737488355328:=by omega
   have HLL:Hid (l.length=k):=hll;have HH:Hid (YR w h X wr l (.slice va l.length vcap) ((obs.take k).map (QI X))):=H;clear hA hKo hbA hbp sr H hb d1 d2 d3 hll;refine wp_region_held_drew (S:=(fun w'=>w'.cell? ⟨wr.heap.size,0,none⟩=some (.int .i64 k0)∧w'.cell? ⟨wr.heap.size,1,none⟩=some (.string t0)∧w'.cell? ⟨wr.heap.size,2,none⟩=some (.slice ra0 r0.length rc0))) (by kernel_rfl) ⟨y0,y1,y2⟩ (fun hHeld=>?_);refine tk 0 16 rfl rfl hHeld ?_;simp only[QhW,QhU,QhV];refine tk 2 18 rfl rfl hHeld ?_;simp only[QhW,QhU,QhV];refine tk 3 19 rfl rfl hHeld ?_;simp only[QhW,QhU,QhV];refine tk 4 20 rfl rfl hHeld ?_;simp only[QhW,QhU,QhV];refine tk 5 21 rfl rfl hHeld ?_;simp only[QhW,QhU,QhV];refine tk 6 22 rfl rfl hHeld ?_;simp only[QhW,QhU,QhV];refine tk 7 23 rfl rfl hHeld ?_;simp only[QhW,QhU,QhV];refine tk 8 24 rfl rfl hHeld ?_;simp only[QhW,QhU,QhV];have x0d:W1.drew.cell? ⟨w.heap.size+1+1,0,none⟩=some (.slice va l.length vcap):=x0;refine wpAnyH_ready (rs:=[1,9]) (by kernel_rfl) (by simp) ?_;refine AllReadyH.cons (o:=_) rfl (fun K hK=>?ld) (AllReadyH.cons (o:=_) rfl (fun K hK=>?cl) AllReadyH.nil)
   case' cl=>
    go_simp;refine c1.mono ?_;rintro e w2 ⟨v',rfl,ho2,hb2⟩;obtain⟨a',c',rfl,-⟩:=ho2.form;rw[Qh0];obtain⟨p0,p1,p2,p3⟩:=HC.out w2 hb2;obtain⟨hvA,hszA,p4,p5,p6,p7⟩:=HV.out w2 a' c' hb2;go_wp2_with fail;refine hK.out _ _ ⟨p1,p2,p3⟩ (fun hHeld2=>?_);clear hK K
    try simp only[Act.put,QhW,QhU,QhV]
    refine tk 10 26 rfl rfl ⟨p1,p2,p3⟩ ?_;simp only[QhW,QhU,QhV];refine wpAnyH_ready (rs:=[1,11]) (by kernel_rfl) (by simp) ?_;refine AllReadyH.cons (o:=_) rfl (fun K hK=>?l1) (AllReadyH.cons (o:=_) rfl (fun K hK=>?b1) AllReadyH.nil)
   case' l1=>
    go_simp;refine hK.out _ _ ⟨p1,p2,p3⟩ (fun _=>?_);clear hK K
    try simp only[Act.put,QhW,QhU,QhV]
    refine wpAnyH_ready (rs:=[11]) (by kernel_rfl) (by simp) ?_;refine AllReadyH.cons (o:=_) rfl (fun K hK=>?_) AllReadyH.nil;go_simp;refine hK.out _ _ ⟨p5,p6,p7⟩ (fun _=>?_);clear hK K
    try simp only[Act.put,QhW,QhU,QhV]
   case' b1=>
    go_simp;refine hK.out _ _ ⟨p5,p6,p7⟩ (fun _=>?_);clear hK K
    try simp only[Act.put,QhW,QhU,QhV]
    refine wpAnyH_ready (rs:=[1]) (by kernel_rfl) (by simp) ?_;refine AllReadyH.cons (o:=_) rfl (fun K hK=>?_) AllReadyH.nil;go_simp;refine hK.out _ _ ⟨p5,p6,p7⟩ (fun _=>?_);clear hK K
    try simp only[Act.put,QhW,QhU,QhV]
   case' ld=>
    go_simp;refine hK.out _ _ ⟨y0,y1,y2⟩ (fun _=>?_);clear hK K
    try simp only[Act.put,QhW,QhU,QhV]
    refine wpAnyH_ready (rs:=[9]) (by kernel_rfl) (by simp) ?_;refine AllReadyH.cons (o:=_) rfl (fun K hK=>?_) AllReadyH.nil;go_simp;refine c1.mono ?_;rintro e w2 ⟨v',rfl,ho2,hb2⟩;obtain⟨a',c',rfl,-⟩:=ho2.form;rw[Qh0];obtain⟨p0,p1,p2,p3⟩:=HC.out w2 hb2;obtain⟨hvA,hszA,p4,p5,p6,p7⟩:=HV.out w2 a' c' hb2;go_wp2_with fail;refine hK.out _ _ ⟨p1,p2,p3⟩ (fun hHeld2=>?_);clear hK K
    try simp only[Act.put,QhW,QhU,QhV]
    refine tk 10 26 rfl rfl ⟨p1,p2,p3⟩ ?_;simp only[QhW,QhU,QhV];refine wpAnyH_ready (rs:=[11]) (by kernel_rfl) (by simp) ?_;refine AllReadyH.cons (o:=_) rfl (fun K hK=>?_) AllReadyH.nil;go_simp;refine hK.out _ _ ⟨p5,p6,p7⟩ (fun _=>?_);clear hK K
    try simp only[Act.put,QhW,QhU,QhV]
   all_goals
    refine wpAnyH_ready (rs:=[12]) (by kernel_rfl) (by simp) ?_;refine AllReadyH.cons (o:=_) rfl (fun K hK=>?_) AllReadyH.nil;refine step_append_lies _ rfl _ _ 23 rfl w.heap.size 37 i0 _ 3 48 ((Cut.under_eq 23).trans Tryz.underlying23) hi hz0 hz1 hz2 rfl (by decide) _ _ _ rfl hvA ⟨w2.heap.size,0,none⟩ 1 1 [.int .i64 k0,.string t0,.slice a' r0.length c'] rfl rfl (hnw _ _ _) (hone _ _) (by decide) hl3 hl4 hszA _ rfl ?_;intro g cap w3 hown3 hgrow hat hlt3;obtain⟨hEnd,s1,s2,s3,s4,s5⟩:=HE.out w2 a' c' g cap w3 hb2 ho2 hown3 hgrow;refine hK.out _ _ ⟨s3,s4,s5⟩ (fun _=>?_);clear hK K;simp only[Act.put,List.getElem_toArray,List.getElem_cons_zero,List.getElem_cons_succ,QhW,QhU,QhV];refine tk 13 29 rfl rfl ⟨s3,s4,s5⟩ ?_;simp only[QhW,QhU,QhV];refine wpAnyH_ready (rs:=[14]) (by kernel_rfl) (by simp) ?_;refine AllReadyH.cons (o:=_) rfl (fun K hK=>?_) AllReadyH.nil;go_simp;refine hK.out _ _ (by go_keep) (fun _=>?_);clear hK K
    try simp only[Act.put]
    refine wpAnyH_done (by kernel_rfl) ?_ _;clear hown3 hgrow hat hvA HE HV HC c1;go_wp2;go_roundw
    case rel=>exact⟨k+1,_,_,by omega,by go_num,hEnd⟩
    case measure=>simp[intOf];omega
  ·have ek:obs.take k=obs:=Qh6 (by omega);rw[ek]at H;have hb:=H.be;have hmp:=H.mp;obtain⟨va,vcap,rfl,-,-⟩:=H.ob.form;have c1:=QbP n X h.ra h.rcap h.rs ya ycap wr (hh.sr.below hb (QhT _)) hs.r (hy.below hb (QhT _)) hro;obtain⟨x0,x1,x2,x3⟩:=Qu H.bh;clear ek;go_wp2_with fail;refine c1.mono ?_;rintro e w1 ⟨v1,rfl,ho1,hb1⟩;generalize hR:h.rs.map (wh X)=R at ho1;have HR:Hid (h.rs.map (wh X)=R):=hR;clear hR;obtain⟨a1,p1,rfl,-⟩:=ho1.form;have bp1:=H.bp.below hb1 H.bp.lt;have bh1:=H.bh.below hb1 H.bh.lt;have br1:=H.br.below hb1 H.br.lt;clear c1 x0 x1 x2 x3;obtain⟨x0,x1,x2,x3⟩:=Qu bh1;have y1:=bp1.cell 1;have f1:=bp1.free 1;simp only[Qh2,Qh3]at y1;have bp1s:=bp1.store 1 (.slice a1 R.length p1);have bh1s:=bh1.other ⟨w.heap.size+1+1,1,none⟩ (.slice a1 R.length p1) (by dsimp only;omega);have br1s:=br1.other ⟨w.heap.size+1+1,1,none⟩ (.slice a1 R.length p1) (by dsimp only;omega);have kt1:Qf 27 wr (w1.setCell ⟨w.heap.size+1+1,1,none⟩ (.slice a1 R.length p1)):=(Qf.below _ hb1 (QhT _)).trans (Qf.set bp1 1 _);have kr1:Qf 27 w1 (w1.setCell ⟨w.heap.size+1+1,1,none⟩ (.slice a1 R.length p1)):=Qf.set bp1 1 _;have hB1:Below w.heap.size w (w1.setCell ⟨w.heap.size+1+1,1,none⟩ (.slice a1 R.length p1)):=(hb.trans (hb1.mono hb.size)).setCell (by dsimp only;omega) _;have hr1:Qa (w1.setCell ⟨w.heap.size+1+1,1,none⟩ (.slice a1 R.length p1)) wr.heap.size (.slice a1 R.length p1) R:=Qm ho1 kr1 (by decide);have c2:=QbI n X h.wa h.wcap h.ws ya ycap _ (hh.sw.below hB1 (QhT _)) hs.w (hy.below hB1 (QhT _)) hwo;have sz1:wr.heap.size≤w1.heap.size:=hb1.size;clear ho1 kr1;go_wp2_with fail;refine c2.mono ?_;rintro e w2 ⟨v2,rfl,ho2,hb2⟩;obtain⟨a2,p2,rfl,-⟩:=ho2.form;have bp2:=bp1s.below hb2 bp1s.lt;have bh2:=bh1s.below hb2 bh1s.lt;have br2:=br1s.below hb2 br1s.lt;clear c2 x0 x1 x2 x3 y1 f1 bp1 bh1 br1 bp1s bh1s br1s;obtain⟨x0,x1,x2,x3⟩:=Qu bh2;have y1:=bp2.cell 2;have f1:=bp2.free 2;simp only[QhV,QhU,Qh2,Qh3]at y1;have bp2s:=bp2.store 2 (.slice a2 (Qg h.ws X).length p2);have bh2s:=bh2.other ⟨w.heap.size+1+1,2,none⟩ (.slice a2 (Qg h.ws X).length p2) (by dsimp only;omega);have br2s:=br2.other ⟨w.heap.size+1+1,2,none⟩ (.slice a2 (Qg h.ws X).length p2) (by dsimp only;omega);have ks2:Qf 27 _ (w2.setCell ⟨w.heap.size+1+1,2,none⟩ (.slice a2 (Qg h.ws X).length p2)):=(Qf.below _ hb2 (QhT _)).trans (Qf.set bp2 2 _);have kt2:=kt1.trans ks2;have kr2:Qf 27 w2 (w2.setCell ⟨w.heap.size+1+1,2,none⟩ (.slice a2 (Qg h.ws X).length p2)):=Qf.set bp2 2 _;have hB2:Below w.heap.size w (w2.setCell ⟨w.heap.size+1+1,2,none⟩ (.slice a2 (Qg h.ws X).length p2)):=(hB1.trans (hb2.mono hB1.size)).setCell (by dsimp only;omega) _;have hr2:=Qm hr1 ks2 (by decide);have hw2:Qe (w2.setCell ⟨w.heap.size+1+1,2,none⟩ (.slice a2 (Qg h.ws X).length p2)) _ (.slice a2 (Qg h.ws X).length p2) (Qg h.ws X):=Qm ho2 kr2 (by decide);have c3:=QbI n X h.da h.dcap h.ds ya ycap _ (hh.sd.below hB2 (QhT _)) hs.d (hy.below hB2 (QhT _)) hdo;have sz2:w1.heap.size≤w2.heap.size:=by have:=hb2.size;simpa[World.setCell]using this
   clear ho2 kr2 kt1 ks2 hB1 hb2 hr1;go_wp2_with fail;refine c3.mono ?_;rintro e w3 ⟨v3,rfl,ho3,hb3⟩;obtain⟨a3,p3,rfl,-⟩:=ho3.form;have bp3:=bp2s.below hb3 bp2s.lt;have bh3:=bh2s.below hb3 bh2s.lt;have br3:=br2s.below hb3 br2s.lt;clear c3 x0 x1 x2 x3 y1 f1 bp2 bh2 br2 bp2s bh2s br2s;obtain⟨r0,r1,r2,r3⟩:w3.cell? ⟨w.heap.size+1,0,none⟩=some (.slice none 0 0)∧w3.cell? ⟨w.heap.size+1,1,none⟩=some (.slice none 0 0)∧w3.cell? ⟨w.heap.size+1,2,none⟩=some (.slice none 0 0)∧w3.cell? ⟨w.heap.size+1,3,none⟩=some (.slice none 0 0):=⟨br3.cell 0,br3.cell 1,br3.cell 2,br3.cell 3⟩;have f0:=br3.free 0;have f1:=br3.free 1;have f2:=br3.free 2;have f3:=br3.free 3;obtain⟨y0,y1,y2,y3⟩:w3.cell? ⟨w.heap.size+1+1,0,none⟩=some (.slice va l.length vcap)∧w3.cell? ⟨w.heap.size+1+1,1,none⟩=some (.slice a1 R.length p1)∧w3.cell? ⟨w.heap.size+1+1,2,none⟩=some (.slice a2 (Qg h.ws X).length p2)∧w3.cell? ⟨w.heap.size+1+1,3,none⟩=some (.slice none 0 0):=⟨bp3.cell 0,bp3.cell 1,bp3.cell 2,bp3.cell 3⟩;have g3:=bp3.free 3;have bp3s:=bp3.store 3 (.slice a3 (Qg h.ds X).length p3);have br3s:=br3.other ⟨w.heap.size+1+1,3,none⟩ (.slice a3 (Qg h.ds X).length p3) (by dsimp only;omega);have ks3:Qf 27 _ (w3.setCell ⟨w.heap.size+1+1,3,none⟩ (.slice a3 (Qg h.ds X).length p3)):=(Qf.below _ hb3 (QhT _)).trans (Qf.set bp3 3 _);have kt3:=kt2.trans ks3;have kr3:Qf 27 w3 (w3.setCell ⟨w.heap.size+1+1,3,none⟩ (.slice a3 (Qg h.ds X).length p3)):=Qf.set bp3 3 _;have hB3:Below w.heap.size w (w3.setCell ⟨w.heap.size+1+1,3,none⟩ (.slice a3 (Qg h.ds X).length p3)):=(hB2.trans (hb3.mono hB2.size)).setCell (by dsimp only;omega) _
   have hOP:Q4 (w3.setCell ⟨w.heap.size+1+1,3,none⟩ (.slice a3 (Qg h.ds X).length p3)) w.heap.size ⟨va,vcap,l,a1,p1,R,a2,p2,Qg h.ws X,a3,p3,Qg h.ds X⟩:=by
    have b0:=hb.size;refine⟨Qm H.ob kt3 (by decide),H.rs.keep kt3,(Qa.base (Qm hr2 ks3 (by decide)) b0),fun i hi a b ha hb'=>?_,Qe.base (Qm hw2 ks3 (by decide)) (by simpa[World.setCell]using QhZ b0 sz1),Qe.base (Qm ho3 kr3 (by decide)) (by simpa[World.setCell]using QhZ b0 (QhZ sz1 sz2)),fun a b ha hb'=>?_⟩
    ·have h1:=(H.rs.lt i hi a ha).2;have h2:=(Qa.lt hr2 b hb').1;omega
    ·have h1:=(Qe.lt hw2 a ha).2;have h2:=(Qe.lt ho3 b hb').1;omega
   obtain⟨kq,bq⟩:=QR br3s (.slice va l.length vcap) (.slice a1 R.length p1) (.slice a2 (Qg h.ws X).length p2) (.slice a3 (Qg h.ds X).length p3);have hOQ:=hOP.keep kq;have hBQ:=ZS hB3 (C:=w.heap.size+1) (by omega) (.slice va l.length vcap) (.slice a1 R.length p1) (.slice a2 (Qg h.ws X).length p2) (.slice a3 (Qg h.ds X).length p3);obtain⟨z0,z1,z2,z3⟩:=Qb bq;have HMP:Hid (l.map Ob.p=obs.map (QI X)):=hmp;clear bp3 bh3 br3 bp3s br3s ks3 kt3 kr3 kt2 hB2 hb3 hr2 hw2 ho3 kq bq hOP hB3 H hb hmp;go_wp2;refine bodyPost_ret (v:=.agg #[.slice va l.length vcap,.slice a1 R.length p1,.slice a2 (Qg h.ws X).length p2,.slice a3 (Qg h.ds X).length p3]) ?_ rfl ⟨⟨va,vcap,l,a1,p1,R,a2,p2,Qg h.ws X,a3,p3,Qg h.ds X⟩,rfl,?_,hOQ,hBQ⟩
   ·simp[results,Tryz.results80,go_sem,z0,z1,z2,z3]
   ·simp only[Hp.p,HMP.out,HR.out]
def pick (os:List Ob)(X:List Int):List Ob:=X.map fun p=>os.getD p.toNat Ob.zero
theorem Ju (os:List Ob)(X:List Int):(pick os X).length=X.length:=by simp[pick]
theorem VN {os:List Ob}{X:List Int}{i:Nat}(hi:i<(pick os X).length)(hx:i<X.length)(hp:X[i].toNat<os.length):(pick os X)[i]=os[X[i].toNat]:=by
 simp[pick,Qh4 hp]
theorem QaE {os:List Ob}{X:List Int}{k:Nat}(hk:k<X.length)(hp:X[k].toNat<os.length):pick os (X.take (k+1))=pick os (X.take k)++ [os[X[k].toNat]]:=by
 unfold pick;rw[Qh5 hk,Qh1];simp[Qh4 hp]
theorem VO {os:List Ob}{X Y:List Int}(hp:∀z∈X,0≤z∧z<os.length):(pick os X).map (QI Y)=X.map (Zj (os.map Ob.p) Y):=by
 unfold pick;rw[List.map_map];refine List.map_congr_left fun z hz=>?_;have h:=hp z hz;have h1:z.toNat<os.length:=by omega
 rw[Pj rfl h1];simp[QI,Qh4 h1]
theorem Qax {h:Hp}(hok:okP h.p=true)(i:Nat)(hi:i<h.os.length):∀z∈h.os[i].r,-1≤z∧z<h.os.length:=by
 have h1:=(ZP hok).2.2.2.1 i hi;simp only[Qt,Bool.and_eq_true]at h1;exact JT h1.1
theorem JH {h:Hp}{l:List (Int×Int)}(hl:∀p∈l,Qn (h.os.map Ob.p) p=true):∀p∈l,(0≤p.1∧p.1<(h.os.length:Int))∧(0≤p.2∧p.2<(h.os.length:Int)):=fun p hp=>by
 have h1:=hl p hp;simp only[Qn,inB,Bool.and_eq_true,decide_eq_true_eq,Qh0]at h1;omega
theorem Jf (h:Hp)(w:World)(hf:Fit w h)(hok:okP h.p=true):
 Calls Cut.prog 53 #[h.v] w fun e w'=>∃h':Hp,e=.returned h'.v∧h'.p=((lookP h.p).o,(lookP h.p).r,(lookP h.p).w,(lookP h.p).d)∧Q4 w' w.heap.size h'∧Below w.heap.size w w':=by
 have hpl:=Py hok hf.small hf.cap;have hn60:=(ZP hok).1;have hro:=JT (ZP hok).2.2.2.2.1;have hwo:=JH (h:=h) (ZP hok).2.2.2.2.2.1;have hdo:=JH (h:=h) (ZP hok).2.2.2.2.2.2;have hrf:=Qax hok;have HLK:Hid (lookP h.p=⟨(reachP h.p).map (Zj (h.os.map Ob.p) (reachP h.p)),h.rs.map (wh (reachP h.p)),Qg h.ws (reachP h.p),Qg h.ds (reachP h.p)⟩):=rfl;obtain⟨i0,hi,hz0,hz1,hz2⟩:=info_parts YT;have hB0:Below w.heap.size w ((w.alloc (QhS #[QhR h.oa h.os.length h.ocap,QhR h.ra h.rs.length h.rcap,QhR h.wa h.ws.length h.wcap,QhR h.da h.ds.length h.dcap] 27)).alloc (QhS #[QhR none 0 0,QhR none 0 0,QhR none 0 0,QhR none 0 0] 27)):=((Below.refl _ _).alloc (QhT _) _).alloc (by simp) _;have hK0:=(Blk.new w [QhR h.oa h.os.length h.ocap,QhR h.ra h.rs.length h.rcap,QhR h.wa h.ws.length h.wcap,QhR h.da h.ds.length h.dcap] 27).alloc (QhS #[QhR none 0 0,QhR none 0 0,QhR none 0 0,QhR none 0 0] 27)
 have hR0:Blk ((w.alloc (QhS #[QhR h.oa h.os.length h.ocap,QhR h.ra h.rs.length h.rcap,QhR h.wa h.ws.length h.wcap,QhR h.da h.ds.length h.dcap] 27)).alloc (QhS #[QhR none 0 0,QhR none 0 0,QhR none 0 0,QhR none 0 0] 27)) (w.heap.size+1) [QhR none 0 0,QhR none 0 0,QhR none 0 0,QhR none 0 0] 27:=by
  have:=Blk.new (w.alloc (QhS #[QhR h.oa h.os.length h.ocap,QhR h.ra h.rs.length h.rcap,QhR h.wa h.ws.length h.wcap,QhR h.da h.ds.length h.dcap] 27)) [QhR none 0 0,QhR none 0 0,QhR none 0 0,QhR none 0 0] 27;rw[World.size_alloc]at this;exact this
 have c1:=O6 h _ (hf.isIn.below hB0 (QhT _)) hf.small hf.txt hf.cap;generalize reachP h.p=X at c1 hpl HLK;have hXl:=hpl.len;clear hok;go_enter (Cut.func_of Tryz.func53 rfl),Tryz.ntmps53;simp only[Hp.v]at c1⊢;go_wp2_with fail;refine c1.mono ?_;rintro e w1 ⟨xv,rfl,hox,hb1⟩;obtain⟨xa,xcap,rfl,sx,-⟩:=hox.form;have hB1:=hB0.trans (hb1.mono hB0.size);have hK1:=hK0.below hb1 hK0.lt;have hR1:=hR0.below hb1 hR0.lt;clear c1 hb1 hB0 hK0 hR0 hox;go_wp2;go_loopw [4,6,11] (fun v _ i wr=>∃k:Nat,k≤X.length∧i=.int .i64 k∧Qw wr w1.heap.size v (pick h.os (X.take k))∧Below w1.heap.size w1 wr) (fun _ _ i _=>X.length-(intOf i).toNat)
 case atStart=>exact⟨0,Nat.zero_le _,rfl,World.ownsRow_nil _ _ _ _,Below.refl _ _⟩
 case round=>
  obtain⟨k,hk,rfl,hown,hb⟩:=hrel;have hbs:=hb.size;have hKr:=hK1.below hb hK1.lt;have hbw:=hB1.trans (hb.mono hB1.size);by_cases hlt:k<X.length
  ·obtain⟨b5,off5,rfl,hb5,e1⟩:=sx.get hlt;have d0:=(hb.cell (p:=⟨b5,off5+k,none⟩) hb5).trans e1;obtain⟨hz0',hz1'⟩:=hpl.rng X[k] (List.getElem_mem hlt);have hzl:X[k].toNat<h.os.length:=by omega
   have HF:Hid (pick h.os (X.take (k+1))=pick h.os (X.take k)++ [h.os[X[k].toNat]]):=QaE hlt hzl;obtain⟨b,off,eo,hbo,e2,e3,e4⟩:=hf.isIn.so.get hzl;have d1:=(hbw.cell (p:=⟨b,off+X[k].toNat*3,none⟩) hbo).trans e2;have d2:=(hbw.cell (p:=⟨b,off+X[k].toNat*3+1,none⟩) hbo).trans e3;have d3:=(hbw.cell (p:=⟨b,off+X[k].toNat*3+2,none⟩) hbo).trans e4;have hll:(pick h.os (X.take k)).length≤k:=by rw[Ju,List.length_take];omega
   obtain⟨x0,x1,x2,x3⟩:=Qu hKr;clear hKr hbw hK1 hR1;generalize h.oa=OA at eo x0⊢;subst eo;generalize h.os[X[k].toNat]=o at *;generalize X[k]=z at *;generalize hL:pick h.os (X.take k)=L at *;have HL:Hid (pick h.os (X.take k)=L):=hL;clear hL e1 e2 e3 e4;obtain⟨k0,t0,ra0,rc0,r0⟩:=o;dsimp only at *;obtain⟨va,vcap,rfl,-,-⟩:=hown.form;have hvA:(wr.alloc (QhS #[QhX .i64 k0,QhY t0,QhR ra0 r0.length rc0] 37)).ownsRow w1.heap.size 37 3 (.slice va L.length vcap) L.length (L.flatMap Ob.cs):=World.ownsRow.alloc hown _
   have HEND:Hid (∀v' w2,w2.ownsRow w1.heap.size 37 3 v' (L.length+1) (L.flatMap Ob.cs++ [QhX .i64 k0,QhY t0,QhR ra0 r0.length rc0])→(wr.alloc (QhS #[QhX .i64 k0,QhY t0,QhR ra0 r0.length rc0] 37)).grownBy w2 (QhR va L.length vcap).ownBlock→Qw w2 w1.heap.size v' (pick h.os (X.take (k+1)))∧Below w1.heap.size w1 w2):=fun v' w2 ho hg=>by
    have hA:Below wr.heap.size wr (wr.alloc (QhS #[QhX .i64 k0,QhY t0,QhR ra0 r0.length rc0] 37)):=(Below.refl _ _).alloc (QhT _) _;refine⟨?_,(hb.trans (hA.mono hb.size)).trans (QJ hg (QhZ hb.size hA.size) (fun k' e=>(hown.lt k' e).1))⟩;rw[HF.out];unfold Qw;simpa[Ob.cs]using ho
   go_wp2_with (at_builtin;refine wpList_append_own_at _ rfl _ _ 23 rfl w1.heap.size 37 i0 _ 3 48 ((Cut.under_eq 23).trans Tryz.underlying23) hi hz0 hz1 hz2 rfl (by decide) _ _ _ rfl hvA ⟨wr.heap.size,0,none⟩ 1 1 [QhX .i64 k0,QhY t0,QhR ra0 r0.length rc0] rfl rfl (Uz ⟨k0,t0,ra0,rc0,r0⟩ _) (Ob.one ⟨k0,t0,ra0,rc0,r0⟩) ?c3 ?c4 ?c5 ?_)
   case c3=>unfold maxLen;omega
   case c4=>omega
   case c5=>simp;omega
   intro v' w2 hown2 hgr _ _;obtain⟨ho3,hb3⟩:=HEND.out v' w2 hown2 hgr;clear hown2 hgr hvA HEND;go_wp2;go_roundw
   case rel=>exact⟨k+1,by omega,by go_num,ho3,hb3⟩
   case measure=>simp[intOf];omega
  ·have ek:X.take k=X:=Qh6 (by omega);rw[ek]at hown;clear ek;have hRr:=hR1.below hb hR1.lt;obtain⟨va,vcap,rfl,-,hsO⟩:=hown.form
   have hgt:∀i (hi:i<(pick h.os X).length),∃j,∃hj:j<h.os.length,(pick h.os X)[i]=h.os[j]:=fun i hi=>by
    have hix:i<X.length:=by rw[Ju]at hi;exact hi
    obtain⟨q0,q1⟩:=hpl.rng X[i] (List.getElem_mem hix);exact⟨X[i].toNat,by omega,VN hi hix (by omega)⟩
   have hseg:ZE wr va (pick h.os X):=hsO fun i hi=>by
    obtain⟨j,hj,e⟩:=hgt i hi;rw[e];exact(hf.isIn.so.2 j hj).below hbw (QhT _)
   have c1:=QbQ h.os.length X xa xcap wr.drew hn60 (sx.below hb.drew (QhT _)) hpl;have hpl60:(pick h.os X).length≤1048576:=by rw[Ju];omega
   have hprl:∀i (hi:i<(pick h.os X).length),(pick h.os X)[i].r.length≤1048576:=fun i hi=>by
    obtain⟨j,hj,e⟩:=hgt i hi;rw[e];exact hf.small.oo j hj
   have hpor:∀i (hi:i<(pick h.os X).length),∀z∈(pick h.os X)[i].r,-1≤z∧z<(h.os.length:Int):=fun i hi=>by
    obtain⟨j,hj,e⟩:=hgt i hi;rw[e];exact hrf j hj
   have HQ:Hid ((pick h.os X).map (QI X)=X.map (Zj (h.os.map Ob.p) X)):=VO hpl.rng;generalize pick h.os X=O at *
   have HC:Hid (∀w2 g,Below wr.drew.heap.size wr.drew w2→Blk w2 g ((whs X h.os.length).map (QhX .i64)) 3→_):=fun w2 g hb2 hK2=>
    have hb2':Below wr.heap.size wr w2:=((Below.refl _ _).drew).trans hb2;have hbw2:Below w.heap.size w w2:=hbw.trans (hb2'.mono hbw.size)
    QaF h va vcap O h.os.length X (some ⟨g,0,none⟩) h.os.length w2 (hf.isIn.below hbw2 (QhT _)) hf.small (hseg.below hb2' (QhT _)) hpl60 hprl hpor hK2.segI hro hwo hdo
   have HS:Hid (∀w2,Below wr.heap.size wr w2→(w2.cell? ⟨w.heap.size,0,none⟩=some (.slice h.oa h.os.length h.ocap)∧w2.cell? ⟨w.heap.size,1,none⟩=some (.slice h.ra h.rs.length h.rcap)∧w2.cell? ⟨w.heap.size,2,none⟩=some (.slice h.wa h.ws.length h.wcap)∧w2.cell? ⟨w.heap.size,3,none⟩=some (.slice h.da h.ds.length h.dcap))∧Blk w2 (w.heap.size+1) [QhR none 0 0,QhR none 0 0,QhR none 0 0,QhR none 0 0] 27∧Below w.heap.size w w2):=fun w2 hb2=>⟨Qu (hKr.below hb2 hKr.lt),hRr.below hb2 hRr.lt,hbw.trans (hb2.mono hbw.size)⟩;obtain⟨x0,x1,x2,x3⟩:=Qu hKr;have hdr:Below wr.heap.size wr wr.drew:=(Below.refl _ _).drew;have HDR:Hid (Below wr.heap.size wr wr.drew):=hdr;clear hdr hKr hRr hb hown hsO hseg hgt hK1 hR1 hB1 sx;simp only[Hp.v]at HC;go_wp2_with fail;go_region_held3 (fun w'=>w'.cell? ⟨w.heap.size,0,none⟩=some (.slice h.oa h.os.length h.ocap)∧w'.cell? ⟨w.heap.size,1,none⟩=some (.slice h.ra h.rs.length h.rcap)∧w'.cell? ⟨w.heap.size,2,none⟩=some (.slice h.wa h.ws.length h.wcap)∧w'.cell? ⟨w.heap.size,3,none⟩=some (.slice h.da h.ds.length h.dcap)) (first|(refine⟨?_,?_,?_,?_⟩<;>with_reducible assumption)|go_keep)
    (first
      |(go_at_call 97;refine c1.mono ?_;rintro e w2 ⟨g,rfl,hK2,hg2,hb2⟩;have hq2:=HDR.out.trans hb2;obtain⟨⟨p0,p1,p2,p3⟩,-,hbw2⟩:=HS.out w2 hq2;have c2:=HC.out w2 g hb2 hK2)
      |(go_at_call 80;refine c2.mono ?_;rintro e w3 ⟨h',rfl,hp',ho',hb3⟩;have hq3:=hq2.trans (hb3.mono hq2.size);obtain⟨⟨s0,s1,s2,s3⟩,hR3,hbw3⟩:=HS.out w3 hq3;obtain⟨r0,r1,r2,r3⟩:=Qb hR3;have f0:=hR3.free 0;have f1:=hR3.free 1;have f2:=hR3.free 2;have f3:=hR3.free 3))
   all_goals
    obtain⟨kq,bq⟩:=QR hR3 (.slice h'.oa h'.os.length h'.ocap) (.slice h'.ra h'.rs.length h'.rcap) (.slice h'.wa h'.ws.length h'.wcap) (.slice h'.da h'.ds.length h'.dcap);have hOQ:=(ho'.keep kq).base (C:=w.heap.size) hbw2.size;have hBQ:=ZS hbw3 (C:=w.heap.size+1) (by omega) (.slice h'.oa h'.os.length h'.ocap) (.slice h'.ra h'.rs.length h'.rcap) (.slice h'.wa h'.ws.length h'.wcap) (.slice h'.da h'.ds.length h'.dcap);have HP:Hid (h'.p=(O.map (QI X),h.rs.map (wh X),Qg h.ws X,Qg h.ds X)):=hp';obtain⟨z0,z1,z2,z3⟩:=Qb bq;clear kq bq ho' hp' c1 c2 HC HS;go_wp2;refine bodyPost_ret (v:=.agg #[.slice h'.oa h'.os.length h'.ocap,.slice h'.ra h'.rs.length h'.rcap,.slice h'.wa h'.ws.length h'.wcap,.slice h'.da h'.ds.length h'.dcap]) ?_ rfl ⟨h',rfl,?_,hOQ,hBQ⟩
    ·simp[results,Tryz.results53,go_sem,z0,z1,z2,z3]
    ·rw[HP.out,HQ.out,HLK.out]
end
end Go.Proofs.YtcpnkpogebjieaaGreat
