/- Lists of what is watched that a call owns; the specification's own list of what guardians -/
import Derived.Deep.RegionHeld3
import Derived.Deep.AppendLies
import Derived.Test.YtcpnkpogebjieaaGreatS15Ss2
import Derived.Shelf.Bits.Mul64
import Derived.Laws.CopyOwn
import Derived.Deep.RegionLaw
open Go.Value renaming int→QhR,slice→QhW
open Go.Obj renaming cells→QhS
open Nat renaming min→QhT,le_refl→QhU,zero_le→QhX,lt_of_lt_of_le→QhY,le_trans→QhZ
open List renaming replicate→QhV,take_of_length_le→Qh0,getElem?_replicate→Qh1
set_option maxHeartbeats 1600000
set_option maxRecDepth 100000
namespace Go.Proofs.YtcpnkpogebjieaaGreat
section
open Go.RowKit
theorem UZ {w:World}{base e size n g cap:Nat}{xs:List Value}(h:w.ownsRow base e size (.slice (some ⟨g,0,none⟩) n cap) n xs)(i:Nat)(hi:i<n*size):w.cell? ⟨g,i,none⟩=xs[i]? :=by
 rcases h.2 with⟨h1,_⟩|⟨g',cap',cur,h1,_,hh,_,_,_,htake⟩
 ·simp at h1
 ·simp only[Value.slice.injEq,Option.some.injEq,Addr.mk.injEq,and_true,true_and]at h1;obtain⟨rfl,rfl⟩:=h1;rw[←htake,List.getElem?_take_of_lt hi];simp[World.cell?,hh]
def Qe (w:World)(base:Nat)(v:Value)(ws:List (Int×Int)):Prop:=w.ownsRow base 40 2 v ws.length (ws.flatMap wc)
theorem Qe.form {w:World}{base:Nat}{v:Value}{ws:List (Int×Int)}(h:Qe w base v ws):∃a cap,v=.slice a ws.length cap∧Qz w a ws∧(ws.length≤cap∧cap≤maxLen):=by
 rcases h.2 with⟨h1,h2⟩|⟨g,cap,cur,h1,hg,hh,hn,hc,hs,htake⟩
 ·refine⟨none,0,by rw[h1,h2],fun hm=>by omega,by omega,QhX _⟩
 ·refine⟨some ⟨g,0,none⟩,cap,h1,fun hm=>⟨g,0,rfl,lt_of_block hh,fun i hi=>?_⟩,hn,hc⟩;have h':w.ownsRow base 40 2 (.slice (some ⟨g,0,none⟩) ws.length cap) ws.length (ws.flatMap wc):=by rw[←h1];exact h
  have g0:=JE wc 2 (fun _=>rfl) ws i 0 hi (by omega);have g1:=JE wc 2 (fun _=>rfl) ws i 1 hi (by omega);refine⟨?_,?_⟩
  ·rw[Nat.zero_add,UZ h' _ (by omega)];exact g0
  ·rw[Nat.zero_add,UZ h' _ (by omega)];exact g1
theorem Qe.below {w w':World}{base B:Nat}{v:Value}{ws:List (Int×Int)}(h:Qe w base v ws)(hb:Below B w w')(hB:w.heap.size≤B):Qe w' base v ws:=by
 refine World.ownsRow.kept h (Jd hb hB none) ?_
 cases e:v.ownBlock with
 |none=>exact Or.inl rfl
 |some k=>exact Or.inr (by simp)
theorem Qe.lt {w:World}{base:Nat}{v:Value}{ws:List (Int×Int)}(h:Qe w base v ws):∀k,v.ownBlock=some k→base≤k∧k<w.heap.size:=World.ownsRow.lt h
theorem Qe.base {w:World}{B C:Nat}{v:Value}{ws:List (Int×Int)}(h:Qe w B v ws)(hC:C≤B):Qe w C v ws:=by
 refine⟨h.1,?_⟩;rcases h.2 with h1|⟨g,cap,cur,h1,hg,r⟩
 ·exact Or.inl h1
 ·exact Or.inr ⟨g,cap,cur,h1,QhZ hC hg,r⟩
theorem Yc {w:World}(p:Int×Int)(t:TypeId):∀j u,(wc p)[j]? =some u→(w.alloc (QhS #[.int .i64 p.1,.int .i64 p.2] t)).cell? ((⟨w.heap.size,0,none⟩:Addr).add j)=some u:=
 World.news_of_block (cs:=#[.int .i64 p.1,.int .i64 p.2]) (heap_alloc_new w _)
theorem Uu (wa:Option Addr)(wcap:Nat)(ws:List (Int×Int))(xa:Option Addr)(xcap:Nat)(x:List Int)(w:World)(hw:Qz w wa ws)(hwl:ws.length≤1048576)(hx:Qi w xa x)(hxl:x.length≤maxLen):
 Calls Cut.prog 61 #[.slice wa ws.length wcap,.slice xa x.length xcap] w fun e w'=>∃v',e=.returned v'∧Qe w' w.heap.size v' (Qg ws x)∧Below w.heap.size w w':=by
 obtain⟨i0,hi,hz0,hz1,hz2⟩:=info_parts Jr;go_enter (Cut.func_of Tryz.func61 rfl),Tryz.ntmps61;go_wp2;have hO0:=World.ownsRow_lit (e:=40) (size:=2) (base:=w.heap.size) w #[] 0 (by simp) (QhX _) rfl;have hB0:Below w.heap.size w (w.alloc (QhS #[] 40)):=(Below.refl _ _).alloc (QhU _) _;go_loopw [5,6] (fun v i wr=>∃k:Nat,k≤ws.length∧i=.int .i64 k∧Qe wr w.heap.size v (Qg (ws.take k) x)∧Below w.heap.size w wr) (fun _ i _=>ws.length-(intOf i).toNat)
 case atStart=>exact⟨0,QhX _,rfl,hO0,hB0⟩
 case round=>
  obtain⟨k,hk,rfl,hown,hb⟩:=hrel;clear hO0 hB0;by_cases hlt:k<ws.length
  ·obtain⟨b,off,rfl,hbw,e1,e2⟩:=hw.get hlt;have d1:=(hb.cell (p:=⟨b,off+k*2,none⟩) hbw).trans e1;have d2:=(hb.cell (p:=⟨b,off+k*2+1,none⟩) hbw).trans e2;have sx:=hx.below hb (QhU _);have sxd:Qi wr.drew xa x:=hx.below hb.drew (QhU _);have HF:=QbE ws x k hlt;have hfl:=QbD ws x k;have hi1:(k:Int)<(ws.length:Int):=by omega
   clear e1 e2;generalize ws[k].1=g1 at *;generalize ws[k].2=g2 at *;go_wp2_with fail;refine(JZ xa _ xcap x g1 _ rfl hxl sx).mono ?_;rintro e w1 ⟨rfl,rfl⟩;by_cases hm:decide (0≤pos x g1)=true
   ·rw[if_pos hm]at HF;have HF':Hid (Qg (ws.take (k+1)) x=Qg (ws.take k) x++ [(pos x g1,pos x g2)]):=HF;clear HF;obtain⟨va,vcap,rfl,-⟩:=hown.form;have hbs:=hb.size;have hrow:=fun k' h'=>(hown.lt k' h').1;have hne:some b≠(QhW va (Qg (ws.take k) x).length vcap).ownBlock:=fun e=>by have:=hrow b e.symm;omega
    generalize hL:Qg (ws.take k) x=L at *;have HL:Hid (Qg (ws.take k) x=L):=hL;clear hL;have hA:Below w1.heap.size w1 (w1.drew.alloc (QhS #[.int .i64 (pos x g1),.int .i64 (pos x g2)] 40)):=(Below.refl _ _).drew.alloc (QhU _) _;have hvA:(w1.drew.alloc (QhS #[.int .i64 (pos x g1),.int .i64 (pos x g2)] 40)).ownsRow w.heap.size 40 2 (.slice va L.length vcap) L.length (L.flatMap wc):=hown.below hA (QhU _);have hnw:=Yc (w:=w1.drew) (pos x g1,pos x g2) 40
    have hone:∀u∈wc (pos x g1,pos x g2),u.oneCell'=true:=fun u hu=>by
     simp[wc]at hu;rcases hu with rfl|rfl<;>rfl
    have hbs2:w.heap.size≤(w1.drew.alloc (QhS #[.int .i64 (pos x g1),.int .i64 (pos x g2)] 40)).heap.size:=QhZ hbs hA.size
    have HS:Hid (∀w2,(w1.drew.alloc (QhS #[.int .i64 (pos x g1),.int .i64 (pos x g2)] 40)).grownBy w2 (QhW va L.length vcap).ownBlock→(w2.cell? ⟨b,off+k*2,none⟩=some (.int .i64 g1)∧w2.cell? ⟨b,off+k*2+1,none⟩=some (.int .i64 g2))∧Below w.heap.size w w2):=fun w2 hg=>by
     have hb1:b<w1.heap.size:=by omega
     refine⟨⟨(hg.cell_far ⟨b,off+k*2,none⟩ (QhY hb1 hA.size) hne).trans ((hA.cell (p:=⟨b,off+k*2,none⟩) hb1).trans d1),(hg.cell_far ⟨b,off+k*2+1,none⟩ (QhY hb1 hA.size) hne).trans ((hA.cell (p:=⟨b,off+k*2+1,none⟩) hb1).trans d2)⟩,?_⟩;exact(hb.trans (hA.mono hb.size)).trans (QJ hg hbs2 hrow)
    have hl1:L.length+1≤maxLen:=by unfold maxLen;omega
    have hl2:(L.length+1)*16≤140737488355328:=by omega
    clear hA hne hrow;go_wp2_with fail;go_region_held3 (fun w'=>w'.cell? ⟨b,off+k*2,none⟩=some (.int .i64 g1)∧w'.cell? ⟨b,off+k*2+1,none⟩=some (.int .i64 g2)) (go_keep)
     (first
       |(go_at_call_of 36 (QhR .i64 g1);refine(JZ xa _ xcap x g1 _ rfl hxl sxd).mono ?_;rintro e w1 ⟨rfl,rfl⟩)
       |(go_at_call_of 36 (QhR .i64 g2);refine(JZ xa _ xcap x g2 _ rfl hxl sxd).mono ?_;rintro e w1 ⟨rfl,rfl⟩)
       |(refine step_append_lies _ rfl _ _ 25 rfl w.heap.size 40 i0 _ 2 16 ((Cut.under_eq 25).trans Tryz.underlying25) hi hz0 hz1 hz2 rfl (by decide) _ _ _ rfl hvA ⟨w1.heap.size,0,none⟩ 1 1 (wc (pos x g1,pos x g2)) rfl rfl hnw hone (by decide) hl1 hl2 hbs2 _ rfl ?_;intro g cap w2 hown2 hgrow hat hlt2;obtain⟨⟨hS1,hS2⟩,hb2⟩:=HS.out w2 hgrow))
    all_goals
     have hown3:Hid (Qe w2 w.heap.size (.slice (some ⟨g,0,none⟩) (L.length+1) cap) (Qg (ws.take (k+1)) x)):=by
      show Qe _ _ _ _;rw[HF'.out];unfold Qe;simpa using hown2
     clear hown2 hgrow hat hvA hnw hone HS;go_wp2;go_roundw
     case rel=>exact⟨k+1,by omega,by go_num,hown3.out,hb2⟩
     case measure=>simp[intOf];omega
   ·rw[if_neg hm]at HF;have hm':decide (0≤pos x g1)=false:=by simpa using hm
    have HF':Hid (Qe w1 w.heap.size u5 (Qg (ws.take (k+1)) x)):=by
     show Qe _ _ _ _;rw[HF];exact hown
    clear HF hm;go_wp2;go_roundw
    case rel=>exact⟨k+1,by omega,by go_num,HF'.out,hb⟩
    case measure=>simp[intOf];omega
  ·have hk2:k=ws.length:=by omega
   subst hk2;rw[List.take_length]at hown;go_wp2;go_ret;exact⟨_,rfl,hown,hb⟩
theorem QbO {l:List Int}{z:Int}(h:z<0):wh l z= -1:=by simp[wh,h]
theorem PL {l:List Int}{z:Int}(h:¬z<0):wh l z=pos l z:=by simp[wh,h]
theorem QbP (n:Nat)(X:List Int)(pa:Option Addr)(pcap:Nat)(ps:List Int)(ya:Option Addr)(ycap:Nat)(w:World)(hp:Qi w pa ps)(hpl:ps.length≤1048576)(hy:Qi w ya (whs X n))(hr:∀z∈ps,-1≤z∧z<n):
 Calls Cut.prog 106 #[.slice pa ps.length pcap,.slice ya n ycap] w fun e w'=>∃v',e=.returned v'∧Qa w' w.heap.size v' (ps.map (wh X))∧Below w.heap.size w w':=by
 obtain⟨i0,hi',hz0,hz1,hz2⟩:=info_parts Je;go_enter (Cut.func_of Tryz.func106 rfl),Tryz.ntmps106;go_wp2_with (at_make;refine wpList_make_own _ rfl _ _ 24 rfl w.heap.size 3 i0 (.int .i64 0) 1 ((Cut.under_eq 24).trans Tryz.underlying24) hi' hz0 hz1 .i64 .i64 _ ps.length rfl rfl rfl ?c1 ?c2 (QhU _) ?_)
 case c1=>rw[hz2];omega
 case c2=>unfold maxLen;omega
 intro w0 hown0 hg0;have hB0:=Vk hg0;have hO0:Qa w0 w.heap.size (.slice (some ⟨w.heap.size,0,none⟩) 0 ps.length) []:=hown0;clear hown0 hg0;go_wp2;go_loopw [5,7,13] (fun v _ i wr=>∃k:Nat,k≤ps.length∧i=.int .i64 k∧Qa wr w.heap.size v ((ps.take k).map (wh X))∧Below w.heap.size w wr) (fun _ _ i _=>ps.length-(intOf i).toNat)
 case atStart=>exact⟨0,QhX _,rfl,hO0,hB0⟩
 case round=>
  obtain⟨k,hk,rfl,hown,hb⟩:=hrel;clear hO0 hB0;by_cases hlt:k<ps.length
  ·obtain⟨b5,off5,rfl,hb5,e1⟩:=hp.get hlt;have d1:=(hb.cell (p:=⟨b5,off5+k,none⟩) hb5).trans e1;clear e1
   have HF:Hid ((ps.take (k+1)).map (wh X)=(ps.take k).map (wh X)++ [wh X ps[k]]):=by
    show _=_;rw[List.take_succ_eq_append_getElem hlt,List.map_append];rfl
   have hfl:((ps.take k).map (wh X)).length≤k:=by rw[List.length_map];exact List.length_take_le _ _
   have hz:=hr ps[k] (List.getElem_mem hlt);generalize ps[k]=z at *;generalize hL:(ps.take k).map (wh X)=L at *;have HL:Hid ((ps.take k).map (wh X)=L):=hL;clear hL;obtain⟨va,vcap,rfl,-⟩:=hown.form;have hrow:=fun k' h'=>(hown.lt k' h').1;have hbs:=hb.size
   have HEND:Hid (∀v' w2,w2.ownsRow w.heap.size 3 1 v' (L.length+1) (L.map (QhR .i64)++ [.int .i64 (wh X z)])→(wr.alloc (QhS #[QhR .i64 (wh X z)] 3)).grownBy w2 (QhW va L.length vcap).ownBlock→Qa w2 w.heap.size v' ((ps.take (k+1)).map (wh X))∧Below w.heap.size w w2):=fun v' w2 ho hg=>by
    have hA:Below wr.heap.size wr (wr.alloc (QhS #[QhR .i64 (wh X z)] 3)):=(Below.refl _ _).alloc (QhU _) _;refine⟨?_,(hb.trans (hA.mono hb.size)).trans (QJ hg (QhZ hb.size hA.size) hrow)⟩;rw[HF.out];unfold Qa;simpa using ho
   have hvA:(wr.alloc (QhS #[QhR .i64 (wh X z)] 3)).ownsRow w.heap.size 3 1 (.slice va L.length vcap) L.length (L.map (QhR .i64)):=World.ownsRow.alloc hown _;by_cases hneg:z<0
   ·have hz1':z= -1:=by omega
    have hw1:wh X z= -1:=QbO hneg;rw[hw1]at hvA HEND;subst hz1';clear hw1 hneg hz;go_wp2_with (at_builtin;refine wpList_append_own_at _ rfl _ _ 24 rfl w.heap.size 3 i0 (.int .i64 0) 1 8 ((Cut.under_eq 24).trans Tryz.underlying24) hi' hz0 hz1 hz2 rfl (by decide) _ _ _ rfl hvA ⟨wr.heap.size,0,none⟩ 1 1 [.int .i64 (-1)] rfl rfl (cell_one_new _ _ _) ?c2 ?c3 ?c4 ?c5 ?_)
    case c2=>intro u hu;simp at hu;subst hu;rfl
    case c3=>unfold maxLen;omega
    case c4=>omega
    case c5=>simp;omega
    intro v' w2 hown2 hgr _ _;obtain⟨ho3,hb3⟩:=HEND.out v' w2 hown2 hgr;clear hown2 hgr hvA HEND;go_wp2;go_roundw
    case rel=>exact⟨k+1,by omega,by go_num,ho3,hb3⟩
    case measure=>simp[intOf];omega
   ·have hzl:z.toNat<(whs X n).length:=by rw[Yd];omega
    obtain⟨b6,off6,rfl,hb6,f1⟩:=hy.get hzl;rw[Ka _ _ _ (by omega)]at f1;have d2:=(hb.cell (p:=⟨b6,off6+z.toNat,none⟩) hb6).trans f1;clear f1;have hw1:wh X z=pos X z:=PL hneg;rw[hw1]at hvA HEND;have hz0':0≤z:=by omega
    have hzn:z<(n:Int):=by omega
    have hdz:decide (0≤z)=true:=by simpa using hz0'
    clear hw1 hneg hz;go_wp2_with (at_builtin;refine wpList_append_own_at _ rfl _ _ 24 rfl w.heap.size 3 i0 (.int .i64 0) 1 8 ((Cut.under_eq 24).trans Tryz.underlying24) hi' hz0 hz1 hz2 rfl (by decide) _ _ _ rfl hvA ⟨wr.heap.size,0,none⟩ 1 1 [.int .i64 (pos X z)] rfl rfl (cell_one_new _ _ _) ?c2 ?c3 ?c4 ?c5 ?_)
    case c2=>intro u hu;simp at hu;subst hu;rfl
    case c3=>unfold maxLen;omega
    case c4=>omega
    case c5=>simp;omega
    intro v' w2 hown2 hgr _ _;obtain⟨ho3,hb3⟩:=HEND.out v' w2 hown2 hgr;clear hown2 hgr hvA HEND;go_wp2;go_roundw
    case rel=>exact⟨k+1,by omega,by go_num,ho3,hb3⟩
    case measure=>simp[intOf];omega
  ·have ek:ps.take k=ps:=Qh0 (by omega);rw[ek]at hown;clear ek;go_wp2;go_ret;exact⟨_,rfl,hown,hb⟩
theorem QbI (n:Nat)(X:List Int)(wa:Option Addr)(wcap:Nat)(ws:List (Int×Int))(ya:Option Addr)(ycap:Nat)(w:World)(hw:Qz w wa ws)(hwl:ws.length≤1048576)(hy:Qi w ya (whs X n))(hr:∀p∈ws,(0≤p.1∧p.1<n)∧(0≤p.2∧p.2<n)):
 Calls Cut.prog 107 #[.slice wa ws.length wcap,.slice ya n ycap] w fun e w'=>∃v',e=.returned v'∧Qe w' w.heap.size v' (Qg ws X)∧Below w.heap.size w w':=by
 obtain⟨i0,hi,hz0,hz1,hz2⟩:=info_parts Jr;go_enter (Cut.func_of Tryz.func107 rfl),Tryz.ntmps107;go_wp2;go_loopw [5,7,10] (fun v _ i wr=>∃k:Nat,k≤ws.length∧i=.int .i64 k∧Qe wr w.heap.size v (Qg (ws.take k) X)∧Below w.heap.size w wr) (fun _ _ i _=>ws.length-(intOf i).toNat)
 case atStart=>exact⟨0,QhX _,rfl,World.ownsRow_nil _ _ _ _,Below.refl _ _⟩
 case round=>
  obtain⟨k,hk,rfl,hown,hb⟩:=hrel;by_cases hlt:k<ws.length
  ·obtain⟨b,off,rfl,hbw,e1,e2⟩:=hw.get hlt;have d1:=(hb.cell (p:=⟨b,off+k*2,none⟩) hbw).trans e1;have d2:=(hb.cell (p:=⟨b,off+k*2+1,none⟩) hbw).trans e2;have HF:=QbE ws X k hlt;have hfl:=QbD ws X k;obtain⟨⟨h10,h11⟩,h20,h21⟩:=hr ws[k] (List.getElem_mem hlt);clear e1 e2;generalize ws[k].1=g1 at *;generalize ws[k].2=g2 at *;have hl1:g1.toNat<(whs X n).length:=by rw[Yd];omega
   have hl2:g2.toNat<(whs X n).length:=by rw[Yd];omega
   obtain⟨b6,off6,q6,hb6,f1⟩:=hy.get hl1;obtain⟨b7,off7,q7,hb7,f2⟩:=hy.get hl2;rw[Ka _ _ _ h10]at f1;rw[Ka _ _ _ h20]at f2;rw[q6]at q7;simp only[Option.some.injEq,Addr.mk.injEq,and_true]at q7;obtain⟨rfl,rfl⟩:=q7;subst q6;have hbs:=hb.size;have hA:Below wr.heap.size wr (wr.alloc (QhS #[QhR .i64 g1,QhR .i64 g2] 40)):=(Below.refl _ _).alloc (QhU _) _;have hbA:=hb.trans (hA.mono hb.size);have s1:=(hbA.cell (p:=⟨b6,off6+g1.toNat,none⟩) hb6).trans f1;have s2:=(hbA.cell (p:=⟨b6,off6+g2.toNat,none⟩) hb6).trans f2;have hownA:=Qe.below hown hA (QhU _);have hq:wr.heap.size<(wr.alloc (QhS #[QhR .i64 g1,QhR .i64 g2] 40)).heap.size:=by simp
   have s3:(wr.alloc (QhS #[QhR .i64 g1,QhR .i64 g2] 40)).cell? ⟨wr.heap.size,0,none⟩=some (.int .i64 g1):=(Blk.new wr [QhR .i64 g1,QhR .i64 g2] 40).cell 0;have s4:(wr.alloc (QhS #[QhR .i64 g1,QhR .i64 g2] 40)).cell? ⟨wr.heap.size,1,none⟩=some (.int .i64 g2):=(Blk.new wr [QhR .i64 g1,QhR .i64 g2] 40).cell 1;obtain⟨va,vcap,rfl,-⟩:=hown.form;have hrow:=fun k' h'=>hown.lt k' h';clear f1 f2 hown hA;by_cases hm:decide (0≤pos X g1)=true
   ·rw[if_pos hm]at HF;have HF':Hid (Qg (ws.take (k+1)) X=Qg (ws.take k) X++ [(pos X g1,pos X g2)]):=HF;clear HF;generalize hL:Qg (ws.take k) X=L at *;have HL:Hid (Qg (ws.take k) X=L):=hL;clear hL;have HW1:∃W1,W1=wr.alloc (QhS #[QhR .i64 g1,QhR .i64 g2] 40):=⟨_,rfl⟩;obtain⟨W1,hW1⟩:=HW1;have HWs:Hid (W1.heap.size=wr.heap.size+1):=by show _=_;rw[hW1];simp
    go_wp2_with fail;rw[←hW1]at s1 s2 s3 s4 hq hownA hbA⊢;clear hW1;have hA2:Below W1.heap.size W1 (W1.drew.alloc (QhS #[.int .i64 (pos X g1),.int .i64 (pos X g2)] 40)):=(Below.refl _ _).drew.alloc (QhU _) _;have hvA:(W1.drew.alloc (QhS #[.int .i64 (pos X g1),.int .i64 (pos X g2)] 40)).ownsRow w.heap.size 40 2 (.slice va L.length vcap) L.length (L.flatMap wc):=hownA.below hA2 (QhU _);have hnw:=Yc (w:=W1.drew) (pos X g1,pos X g2) 40
    have hone:∀u∈wc (pos X g1,pos X g2),u.oneCell'=true:=fun u hu=>by
     simp[wc]at hu;rcases hu with rfl|rfl<;>rfl
    have hbs2:w.heap.size≤(W1.drew.alloc (QhS #[.int .i64 (pos X g1),.int .i64 (pos X g2)] 40)).heap.size:=QhZ hbA.size hA2.size
    have HS:Hid (∀w2,(W1.drew.alloc (QhS #[.int .i64 (pos X g1),.int .i64 (pos X g2)] 40)).grownBy w2 (QhW va L.length vcap).ownBlock→(w2.cell? ⟨wr.heap.size,0,none⟩=some (.int .i64 g1)∧w2.cell? ⟨wr.heap.size,1,none⟩=some (.int .i64 g2)∧w2.cell? ⟨b6,off6+g1.toNat,none⟩=some (.int .i64 (pos X g1))∧w2.cell? ⟨b6,off6+g2.toNat,none⟩=some (.int .i64 (pos X g2)))∧Below w.heap.size w w2):=fun w2 hg=>by
     have hb1:b6<W1.heap.size:=by omega
     have ne1:some b6≠(QhW va L.length vcap).ownBlock:=fun e=>by have:=(hrow b6 e.symm).1;omega
     have ne2:some wr.heap.size≠(QhW va L.length vcap).ownBlock:=fun e=>by have:=(hrow _ e.symm).2;omega
     refine⟨⟨(hg.cell_far ⟨wr.heap.size,0,none⟩ (QhY hq hA2.size) ne2).trans ((hA2.cell (p:=⟨wr.heap.size,0,none⟩) hq).trans s3),(hg.cell_far ⟨wr.heap.size,1,none⟩ (QhY hq hA2.size) ne2).trans ((hA2.cell (p:=⟨wr.heap.size,1,none⟩) hq).trans s4),
      (hg.cell_far ⟨b6,_,none⟩ (QhY hb1 hA2.size) ne1).trans ((hA2.cell (p:=⟨b6,_,none⟩) hb1).trans s1),(hg.cell_far ⟨b6,_,none⟩ (QhY hb1 hA2.size) ne1).trans ((hA2.cell (p:=⟨b6,_,none⟩) hb1).trans s2)⟩,?_⟩
     exact(hbA.trans (hA2.mono hbA.size)).trans (QJ hg hbs2 (fun k' h'=>(hrow k' h').1))
    have hl3:L.length+1≤maxLen:=by unfold maxLen;omega
    have hl4:(L.length+1)*16≤140737488355328:=by omega
    have hi1:(k:Int)<(ws.length:Int):=by omega
    clear hA2 hrow;go_region_held3 (fun w'=>w'.cell? ⟨wr.heap.size,0,none⟩=some (.int .i64 g1)∧w'.cell? ⟨wr.heap.size,1,none⟩=some (.int .i64 g2)∧w'.cell? ⟨b6,off6+g1.toNat,none⟩=some (.int .i64 (pos X g1))∧w'.cell? ⟨b6,off6+g2.toNat,none⟩=some (.int .i64 (pos X g2))) (go_keep)
     (first
       |(refine step_append_lies _ rfl _ _ 25 rfl w.heap.size 40 i0 _ 2 16 ((Cut.under_eq 25).trans Tryz.underlying25) hi hz0 hz1 hz2 rfl (by decide) _ _ _ rfl hvA ⟨W1.heap.size,0,none⟩ 1 1 (wc (pos X g1,pos X g2)) rfl rfl hnw hone (by decide) hl3 hl4 hbs2 _ rfl ?_;intro g cap w2 hown2 hgrow hat hlt2;obtain⟨⟨hS1,hS2,hS3,hS4⟩,hb2⟩:=HS.out w2 hgrow))
    all_goals
     have hown3:Hid (Qe w2 w.heap.size (.slice (some ⟨g,0,none⟩) (L.length+1) cap) (Qg (ws.take (k+1)) X)):=by
      show Qe _ _ _ _;rw[HF'.out];unfold Qe;simpa using hown2
     clear hown2 hgrow hat hvA hnw hone HS;go_wp2;go_roundw
     case rel=>exact⟨k+1,by omega,by go_num,hown3.out,hb2⟩
     case measure=>simp[intOf];omega
   ·rw[if_neg hm]at HF;have hm':decide (0≤pos X g1)=false:=by simpa using hm
    have HF':Hid (Qe (wr.alloc (QhS #[QhR .i64 g1,QhR .i64 g2] 40)) w.heap.size (QhW va (Qg (ws.take k) X).length vcap) (Qg (ws.take (k+1)) X)):=by
     show Qe _ _ _ _;rw[HF];exact hownA
    clear HF hm hownA;go_wp2;go_roundw
    case rel=>exact⟨k+1,by omega,by go_num,HF'.out,hbA⟩
    case measure=>simp[intOf];omega
  ·have ek:ws.take k=ws:=Qh0 (by omega);rw[ek]at hown;clear ek;go_wp2;go_ret;exact⟨_,rfl,hown,hb⟩
theorem Qfx (c:Nat)(hc:c≤60)(w:World):Calls Cut.prog 157 #[.int .u64 1,.int .u64 c] w fun e w'=>e=.returned (.tuple #[.int .u64 0,.int .u64 c])∧w'=w:=by
 have hm:bits .and .u64 (c:Int) 4294967295=(c:Int):=by
  rw[Mul64.maskN c (by omega)];omega
 have hm1:bits .and .u64 (1:Int) 4294967295=(1:Int):=by
  have:=Mul64.maskN 1 (by omega);simpa using this
 have hm0:bits .and .u64 (0:Int) 4294967295=(0:Int):=by
  have:=Mul64.maskN 0 (by omega);simpa using this
 have hd:(c:Int)/4294967296=0:=by omega
 go_enter (Cut.func_of Tryz.func157 rfl),Tryz.ntmps157;go_wp2
 go_ret2
 exact⟨rfl,rfl⟩
theorem Qfy (c:Nat)(hc:c≤60)(w:World):Calls Cut.prog 148 #[.int .u64 1,.int .u64 c] w fun e w'=>e=.returned (.tuple #[.int .u64 0,.int .u64 c])∧w'=w:=by
 have c1:=Qfx c hc w;go_enter (Cut.func_of Tryz.func148 rfl),Tryz.ntmps148;go_wp2_with fail;refine c1.mono ?_;rintro e w1 ⟨rfl,rfl⟩;go_wp2
 go_ret2
 exact⟨rfl,rfl⟩
def ZJ (m n:Nat)(z:Int):List Value:=QhV m (QhR .i64 z)++QhV (n-m) (QhR .i64 0)
theorem Qap {m n:Nat}{z:Int}(h:m≤n):(ZJ m n z).length=n:=by simp[ZJ];omega
theorem Qaq {m n j:Nat}{z:Int}(h:m+j≤n):splice (ZJ m n z) m (QhV j (QhR .i64 z))=ZJ (m+j) n z:=by
 unfold splice ZJ;rw[List.take_append_of_le_length (by simp),Qh0 (by simp)];rw[List.drop_append,List.drop_of_length_le (by simp)];simp only[List.length_replicate,List.nil_append,List.drop_replicate];rw[←List.append_assoc,List.replicate_append_replicate];congr 2;omega
theorem Qfq {m n:Nat}{z:Int}(k:Nat)(hk:k<m):(ZJ m n z)[k]? =some (QhR .i64 z):=by
 unfold ZJ;rw[List.getElem?_append_left (by simpa using hk)];simp[hk]
theorem QaN (j:Nat)(z:Int):∀v∈QhV j (QhR .i64 z),v.oneCell'=true:=fun v hv=>by
 rw[List.eq_of_mem_replicate hv];rfl
theorem Qgf (z:Int)(b o n:Nat)(w:World)(hn:n≤60)(hc:w.cell? ⟨b,o,none⟩=some (.int .i64 z))(hb:b<w.heap.size):
 Calls Cut.prog 127 #[.slice (some ⟨b,o,none⟩) 1 1,.int .i64 n] w fun e w'=>∃g,e=.returned (.slice (some ⟨g,0,none⟩) n n)∧Blk w' g (QhV n (QhR .i64 z)) 3∧w.heap.size≤g∧Below w.heap.size w w':=by
 obtain⟨i0,hi',hz0,hz1,hz2⟩:=info_parts Je;have c1:=Qfy n hn w;go_enter (Cut.func_of Tryz.func127 rfl),Tryz.ntmps127;go_wp2_with fail;refine c1.mono ?_;rintro e w1 ⟨rfl,rfl⟩;clear c1;go_wp2_with (at_make;refine wpList_make_full _ rfl _ _ 24 rfl w1.heap.size 3 i0 (.int .i64 0) 1 ((Cut.under_eq 24).trans Tryz.underlying24) hi' hz0 hz1 .i64 .i64 _ _ n rfl rfl rfl rfl ?c1 ?c2 (QhU _) ?_)
 case c1=>rw[hz2];omega
 case c2=>unfold maxLen;omega
 intro w2 hown hgr;have hb1:=Vk hgr;have hk1:=P6 hown;rw[toList_madeCells_one]at hk1;clear hown hgr
 have hk2:w2.heap[w1.heap.size]? =some (.cells (ZJ 0 n z).toArray 3 (0,0)):=by
  have:=hk1;unfold Blk at this;rw[this];simp[ZJ]
 have hc2:=(hb1.cell (p:=⟨b,o,none⟩) hb).trans hc;have hsz1:(Cut.prog.info? 3).map (·.size)=some 1:=by rw[hi'];simp[hz1]
 clear hk1;have hq1:QhT 1 n≤1:=Nat.min_le_left 1 n;have hq2:QhT 1 n≤n:=Nat.min_le_right 1 n;have HC:∃cs:List Value,cs=QhV (QhT 1 n) (QhR .i64 z):=⟨_,rfl⟩;obtain⟨cs,hcs⟩:=HC;have hcl:cs.length=QhT 1 n:=by rw[hcs];simp
 have hcp:0<cs.length→((some ⟨w1.heap.size,0,none⟩:Option Addr)=some ⟨w1.heap.size,0,none⟩∧∃ad,(some ⟨b,o,none⟩:Option Addr)=some ad∧∀j v,cs[j]? =some v→w2.cell? (ad.add j)=some v):=fun _=>⟨rfl,⟨b,o,none⟩,rfl,fun j v hj=>by
  have hj1:j<cs.length:=by
   rcases Nat.lt_or_ge j cs.length with h|h
   ·exact h
   ·rw[List.getElem?_eq_none h]at hj;cases hj
  have h0:j=0:=by rw[hcl]at hj1;omega
  subst h0;rw[hcs,Qh1]at hj;split at hj
  ·simp at hj;subst hj;simpa[Addr.add]using hc2
  ·cases hj⟩
 have hcf:0+cs.length≤(ZJ 0 n z).length:=by rw[Qap (QhX _),hcl];omega
 have hc1:∀v∈cs,v.oneCell'=true:=by rw[hcs];exact QaN _ _
 have HM:Hid (splice (ZJ 0 n z) 0 cs=ZJ (QhT 1 n) n z):=by
  show _=_;have:=Qaq (m:=0) (n:=n) (j:=QhT 1 n) (z:=z) (by omega);rw[hcs,this,Nat.zero_add]
 have HCL:Hid (cs.length=QhT 1 n):=hcl;clear hcs;go_wp2_with (refine wpList_copy_splice rfl _ _ 24 24 rfl 3 ((Cut.under_eq 24).trans Tryz.underlying24) hsz1 _ _ n n 1 1 rfl rfl w1.heap.size 0 (ZJ 0 n z) 3 hk2 cs hcl hcp hcf hc1 w1.heap.size w1 hb1 (QhU _) ?_);intro w3 HK3 hb3
 have hK3:Blk w3 w1.heap.size (ZJ (QhT 1 n) n z) 3:=by
  have:=HK3.out;rw[HM.out]at this;exact this
 have hq3:0<n→0<QhT 1 n:=fun h=>by
  have:QhT 1 n=1:=Nat.min_eq_left h;omega
 have hlen:=HCL.out;generalize QhT 1 n=q at *;generalize cs.length=q' at *;subst hlen;clear hcp hcf hc1 HK3 HM HCL hk2 hc2;go_wp2;go_loopw [8] (fun i wr=>∃m:Nat,i=.int .i64 m∧m≤n∧(0<n→0<m)∧Blk wr w1.heap.size (ZJ m n z) 3∧Below w1.heap.size w1 wr) (fun i _=>n-(intOf i).toNat)
 case atStart=>exact⟨_,rfl,by omega,hq3,hK3,hb3⟩
 case round=>
  obtain⟨m,rfl,hmn,hm0,hK,hbm⟩:=hrel;clear hK3 hb3 hb1 hq3;by_cases hlt:m<n
  ·have hmp:=hm0 (by omega);have hj1:QhT m (n-m)≤n-m:=Nat.min_le_right m (n-m);have hj2:0<QhT m (n-m):=Nat.lt_min.2 ⟨hmp,by omega⟩;have hKd:wr.drew.heap[w1.heap.size]? =some (.cells (ZJ m n z).toArray 3 (0,0)):=hK;have HC:∃cs:List Value,cs=QhV (QhT m (n-m)) (QhR .i64 z):=⟨_,rfl⟩;obtain⟨cs2,hcs2⟩:=HC;have hcl2:cs2.length=QhT m (n-m):=by rw[hcs2];simp
   have hcp2:0<cs2.length→((some ⟨w1.heap.size,m,none⟩:Option Addr)=some ⟨w1.heap.size,m,none⟩∧∃ad,(some ⟨w1.heap.size,0,none⟩:Option Addr)=some ad∧∀j v,cs2[j]? =some v→wr.drew.cell? (ad.add j)=some v):=fun _=>⟨rfl,⟨w1.heap.size,0,none⟩,rfl,fun j v hj=>by
    have hj3:j<cs2.length:=by
     rcases Nat.lt_or_ge j cs2.length with h|h
     ·exact h
     ·rw[List.getElem?_eq_none h]at hj;cases hj
    have hjm:j<m:=by have:QhT m (n-m)≤m:=Nat.min_le_left _ _;omega
    rw[hcs2,Qh1]at hj;split at hj
    ·simp at hj;subst hj;have h1:=(hK.cell j).trans (Qfq j hjm);have hadd:(⟨w1.heap.size,0,none⟩:Addr).add j=⟨w1.heap.size,j,none⟩:=by unfold Addr.add;split<;>simp_all
     rw[hadd];exact h1
    ·cases hj⟩
   have hcf2:m+cs2.length≤(ZJ m n z).length:=by rw[Qap hmn,hcl2];omega
   have hc12:∀v∈cs2,v.oneCell'=true:=by rw[hcs2];exact QaN _ _
   have HM2:Hid (splice (ZJ m n z) m cs2=ZJ (m+QhT m (n-m)) n z):=by
    show _=_;rw[hcs2];exact Qaq (by omega)
   have HCL2:Hid (cs2.length=QhT m (n-m)):=hcl2;have HCP2:Hid (0<cs2.length→(∃ad,(some ⟨w1.heap.size,0,none⟩:Option Addr)=some ad∧∀j v,cs2[j]? =some v→wr.drew.cell? (ad.add j)=some v)):=fun h=>(hcp2 h).2;rw[←hcl2]at hj1 hj2 HM2;obtain⟨q2,hq2⟩:∃q,q=cs2.length:=⟨_,rfl⟩;rw[←hq2]at hj1 hj2 HM2;have HQ:Hid (q2=cs2.length):=hq2;clear hcl2 hcp2 hq2;have hi1:(m:Int)<(n:Int):=by omega
   have hi2:(m:Int)≤(n:Int):=by omega
   have hnm:¬n=m:=by omega
   have hnm2:¬m=n:=by omega
   clear hcs2;go_wp2_with fail;go_region_held3 (fun _=>True) (trivial)
    (first
      |(refine step_copy_splice rfl _ _ 24 24 rfl 3 ((Cut.under_eq 24).trans Tryz.underlying24) hsz1 (some ⟨w1.heap.size,m,none⟩) (some ⟨w1.heap.size,0,none⟩) (n-m) (n-m) m n rfl rfl w1.heap.size m (ZJ m n z) 3 hKd cs2 HCL2.out (fun h=>⟨rfl,HCP2.out h⟩) hcf2 hc12 w1.heap.size w1 hbm.drew (QhU _) ?_;intro w4 HK4 hb4))
   all_goals
    have hK5:Hid (Blk w4 w1.heap.size (ZJ (m+q2) n z) 3):=by
     show Blk _ _ _ _;have:=HK4.out;rw[HM2.out]at this;exact this
    have hl5:=HQ.out;clear hcf2 hc12 HK4 HM2 HCL2 hKd HCP2 HQ;generalize cs2.length=q3 at *;subst hl5;have hwr:IntKind.i64.wrap ((m:Int)+(q2:Int))=((m+q2:Nat):Int):=by rw[IntKind.wrap_i64];omega
    go_wp2;go_roundw
    case rel=>exact⟨m+q2,by first|go_num|rw[hwr],by omega,fun _=>by omega,hK5.out,hb4⟩
    case measure=>simp[intOf];omega
  ·have em:m=n:=by omega
   have hKn:Blk wr w1.heap.size (QhV n (QhR .i64 z)) 3:=by
    have:=hK;rw[em]at this;simpa[ZJ]using this
   clear em hK;go_wp2;go_ret;exact⟨_,rfl,hKn,QhU _,hbm⟩
end
end Go.Proofs.YtcpnkpogebjieaaGreat
