/- The program's own looking the same: places and what is watched told by where they are. -/
import Derived.Test.YtcpnkpogebjieaaGreatG16Ss3
import Derived.Shelf.Bits.Mul64
import Derived.Laws.CopyOwn
import Derived.Deep.RegionLaw
open Go.Value renaming int→Qhp,slice→Qhu
open Nat renaming min→Qhq,le_refl→Qhs,zero_le→Qhv,lt_of_lt_of_le→Qhx
open Go.Obj renaming cells→Qhr
open List renaming replicate→Qht,take_of_length_le→Qhw,getElem_mem→Qhy,take_succ_eq_append_getElem→Qhz,getElem?_replicate→QhA
set_option maxHeartbeats 1600000
set_option maxRecDepth 100000
namespace Go.Proofs.YtcpnkpogebjieaaGreat
section
open Go.RowKit
theorem Qhf {l:List Int}{z:Int}(h:z<0):wh l z= -1:=by simp[wh,h]
theorem Qhg {l:List Int}{z:Int}(h:¬z<0):wh l z=pos l z:=by simp[wh,h]
theorem Qbg (n:Nat)(X:List Int)(pa:Option Addr)(pcap:Nat)(ps:List Int)(ya:Option Addr)(ycap:Nat)(w:World)(hp:Qk w pa ps)(hpl:ps.length≤1048576)(hy:Qk w ya (whs X n))(hr:∀z∈ps,-1≤z∧z<n):
 Calls Cut.prog 106 #[.slice pa ps.length pcap,.slice ya n ycap] w fun e w'=>∃v',e=.returned v'∧Qa w' w.heap.size v' (ps.map (wh X))∧Below w.heap.size w w':=by
 obtain⟨i0,hi',hz0,hz1,hz2⟩:=info_parts Ja
 go_enter (Cut.func_of Tryz.func106 rfl),Tryz.ntmps106
 go_wp2_with (at_make;refine wpList_make_own _ rfl _ _ 24 rfl w.heap.size 3 i0 (.int .i64 0) 1 ((Cut.under_eq 24).trans Tryz.underlying24) hi' hz0 hz1 .i64 .i64 _ ps.length rfl rfl rfl ?c1 ?c2 (Qhs _) ?_)
 case c1=>rw[hz2];omega
 case c2=>unfold maxLen;omega
 intro w0 hown0 hg0
 have hB0:=U7 hg0
 have hO0:Qa w0 w.heap.size (.slice (some ⟨w.heap.size,0,none⟩) 0 ps.length) []:=hown0
 clear hown0 hg0
 go_wp2
 go_loopw [5,7,13] (fun v _ i wr=>∃k:Nat,k≤ps.length∧i=.int .i64 k∧Qa wr w.heap.size v ((ps.take k).map (wh X))∧Below w.heap.size w wr) (fun _ _ i _=>ps.length-(intOf i).toNat)
 case atStart=>exact⟨0,Qhv _,rfl,hO0,hB0⟩
 case round=>
  obtain⟨k,hk,rfl,hown,hb⟩:=hrel
  clear hO0 hB0
  by_cases hlt:k<ps.length
  ·obtain⟨b5,off5,rfl,hb5,e1⟩:=hp.get hlt
   have d1:=(hb.cell (p:=⟨b5,off5+k,none⟩) hb5).trans e1
   clear e1
   have HF:Hid ((ps.take (k+1)).map (wh X)=(ps.take k).map (wh X)++ [wh X ps[k]]):=by
    show _=_
    rw[Qhz hlt,List.map_append];rfl
   have hfl:((ps.take k).map (wh X)).length≤k:=by rw[List.length_map];exact List.length_take_le _ _
   have hz:=hr ps[k] (Qhy hlt)
   generalize ps[k]=z at *
   generalize hL:(ps.take k).map (wh X)=L at *
   have HL:Hid ((ps.take k).map (wh X)=L):=hL
   clear hL
   obtain⟨va,vcap,rfl,-⟩:=hown.form
   have hrow:=fun k' h'=>(hown.lt k' h').1
   have hbs:=hb.size
   have HEND:Hid (∀v' w2,w2.ownsRow w.heap.size 3 1 v' (L.length+1) (L.map (Qhp .i64)++ [.int .i64 (wh X z)])→(wr.alloc (Qhr #[Qhp .i64 (wh X z)] 3)).grownBy w2 (Qhu va L.length vcap).ownBlock→Qa w2 w.heap.size v' ((ps.take (k+1)).map (wh X))∧Below w.heap.size w w2):=fun v' w2 ho hg=>by
    have hA:Below wr.heap.size wr (wr.alloc (Qhr #[Qhp .i64 (wh X z)] 3)):=(Below.refl _ _).alloc (Qhs _) _
    refine⟨?_,(hb.trans (hA.mono hb.size)).trans (QL hg (Nat.le_trans hb.size hA.size) hrow)⟩
    rw[HF.out]
    unfold Qa
    simpa using ho
   have hvA:(wr.alloc (Qhr #[Qhp .i64 (wh X z)] 3)).ownsRow w.heap.size 3 1 (.slice va L.length vcap) L.length (L.map (Qhp .i64)):=World.ownsRow.alloc hown _
   by_cases hneg:z<0
   ·have hz1':z= -1:=by omega
    have hw1:wh X z= -1:=Qhf hneg
    rw[hw1]at hvA HEND
    subst hz1'
    clear hw1 hneg hz
    go_wp2_with (at_builtin;refine wpList_append_own_at _ rfl _ _ 24 rfl w.heap.size 3 i0 (.int .i64 0) 1 8 ((Cut.under_eq 24).trans Tryz.underlying24) hi' hz0 hz1 hz2 rfl (by decide) _ _ _ rfl hvA ⟨wr.heap.size,0,none⟩ 1 1 [.int .i64 (-1)] rfl rfl (cell_one_new _ _ _) ?c2 ?c3 ?c4 ?c5 ?_)
    case c2=>intro u hu;simp at hu;subst hu;rfl
    case c3=>unfold maxLen;omega
    case c4=>omega
    case c5=>simp;omega
    intro v' w2 hown2 hgr _ _
    obtain⟨ho3,hb3⟩:=HEND.out v' w2 hown2 hgr
    clear hown2 hgr hvA HEND
    go_wp2
    go_roundw
    case rel=>exact⟨k+1,by omega,by go_num,ho3,hb3⟩
    case measure=>simp[intOf];omega
   ·have hzl:z.toNat<(whs X n).length:=by rw[JM];omega
    obtain⟨b6,off6,rfl,hb6,f1⟩:=hy.get hzl
    rw[UW _ _ _ (by omega)]at f1
    have d2:=(hb.cell (p:=⟨b6,off6+z.toNat,none⟩) hb6).trans f1
    clear f1
    have hw1:wh X z=pos X z:=Qhg hneg
    rw[hw1]at hvA HEND
    have hz0':0≤z:=by omega
    have hzn:z<(n:Int):=by omega
    have hdz:decide (0≤z)=true:=by simpa using hz0'
    clear hw1 hneg hz
    go_wp2_with (at_builtin;refine wpList_append_own_at _ rfl _ _ 24 rfl w.heap.size 3 i0 (.int .i64 0) 1 8 ((Cut.under_eq 24).trans Tryz.underlying24) hi' hz0 hz1 hz2 rfl (by decide) _ _ _ rfl hvA ⟨wr.heap.size,0,none⟩ 1 1 [.int .i64 (pos X z)] rfl rfl (cell_one_new _ _ _) ?c2 ?c3 ?c4 ?c5 ?_)
    case c2=>intro u hu;simp at hu;subst hu;rfl
    case c3=>unfold maxLen;omega
    case c4=>omega
    case c5=>simp;omega
    intro v' w2 hown2 hgr _ _
    obtain⟨ho3,hb3⟩:=HEND.out v' w2 hown2 hgr
    clear hown2 hgr hvA HEND
    go_wp2
    go_roundw
    case rel=>exact⟨k+1,by omega,by go_num,ho3,hb3⟩
    case measure=>simp[intOf];omega
  ·have ek:ps.take k=ps:=Qhw (by omega)
   rw[ek]at hown
   clear ek
   go_wp2
   go_ret
   exact⟨_,rfl,hown,hb⟩
theorem Qba (n:Nat)(X:List Int)(wa:Option Addr)(wcap:Nat)(ws:List (Int×Int))(ya:Option Addr)(ycap:Nat)(w:World)(hw:QE w wa ws)(hwl:ws.length≤1048576)(hy:Qk w ya (whs X n))(hr:∀p∈ws,(0≤p.1∧p.1<n)∧(0≤p.2∧p.2<n)):
 Calls Cut.prog 107 #[.slice wa ws.length wcap,.slice ya n ycap] w fun e w'=>∃v',e=.returned v'∧Qe w' w.heap.size v' (Qo ws X)∧Below w.heap.size w w':=by
 obtain⟨i0,hi,hz0,hz1,hz2⟩:=info_parts Jx
 go_enter (Cut.func_of Tryz.func107 rfl),Tryz.ntmps107
 go_wp2
 go_loopw [5,7,10] (fun v _ i wr=>∃k:Nat,k≤ws.length∧i=.int .i64 k∧Qe wr w.heap.size v (Qo (ws.take k) X)∧Below w.heap.size w wr) (fun _ _ i _=>ws.length-(intOf i).toNat)
 case atStart=>exact⟨0,Qhv _,rfl,World.ownsRow_nil _ _ _ _,Below.refl _ _⟩
 case round=>
  obtain⟨k,hk,rfl,hown,hb⟩:=hrel
  by_cases hlt:k<ws.length
  ·obtain⟨b,off,rfl,hbw,e1,e2⟩:=hw.get hlt
   have d1:=(hb.cell (p:=⟨b,off+k*2,none⟩) hbw).trans e1
   have d2:=(hb.cell (p:=⟨b,off+k*2+1,none⟩) hbw).trans e2
   have HF:=Qg9 ws X k hlt
   have hfl:=Qg8 ws X k
   obtain⟨⟨h10,h11⟩,h20,h21⟩:=hr ws[k] (Qhy hlt)
   clear e1 e2
   generalize ws[k].1=g1 at *
   generalize ws[k].2=g2 at *
   have hl1:g1.toNat<(whs X n).length:=by rw[JM];omega
   have hl2:g2.toNat<(whs X n).length:=by rw[JM];omega
   obtain⟨b6,off6,q6,hb6,f1⟩:=hy.get hl1
   obtain⟨b7,off7,q7,hb7,f2⟩:=hy.get hl2
   rw[UW _ _ _ h10]at f1
   rw[UW _ _ _ h20]at f2
   rw[q6]at q7
   simp only[Option.some.injEq,Addr.mk.injEq,and_true]at q7
   obtain⟨rfl,rfl⟩:=q7
   subst q6
   have hbs:=hb.size
   have hA:Below wr.heap.size wr (wr.alloc (Qhr #[Qhp .i64 g1,Qhp .i64 g2] 40)):=(Below.refl _ _).alloc (Qhs _) _
   have hbA:=hb.trans (hA.mono hb.size)
   have s1:=(hbA.cell (p:=⟨b6,off6+g1.toNat,none⟩) hb6).trans f1
   have s2:=(hbA.cell (p:=⟨b6,off6+g2.toNat,none⟩) hb6).trans f2
   have hownA:=Qe.below hown hA (Qhs _)
   have hq:wr.heap.size<(wr.alloc (Qhr #[Qhp .i64 g1,Qhp .i64 g2] 40)).heap.size:=by simp
   have s3:(wr.alloc (Qhr #[Qhp .i64 g1,Qhp .i64 g2] 40)).cell? ⟨wr.heap.size,0,none⟩=some (.int .i64 g1):=(Blk.new wr [Qhp .i64 g1,Qhp .i64 g2] 40).cell 0
   have s4:(wr.alloc (Qhr #[Qhp .i64 g1,Qhp .i64 g2] 40)).cell? ⟨wr.heap.size,1,none⟩=some (.int .i64 g2):=(Blk.new wr [Qhp .i64 g1,Qhp .i64 g2] 40).cell 1
   obtain⟨va,vcap,rfl,-⟩:=hown.form
   have hrow:=fun k' h'=>hown.lt k' h'
   clear f1 f2 hown hA
   by_cases hm:decide (0≤pos X g1)=true
   ·rw[if_pos hm]at HF
    have HF':Hid (Qo (ws.take (k+1)) X=Qo (ws.take k) X++ [(pos X g1,pos X g2)]):=HF
    clear HF
    generalize hL:Qo (ws.take k) X=L at *
    have HL:Hid (Qo (ws.take k) X=L):=hL
    clear hL
    have HW1:∃W1,W1=wr.alloc (Qhr #[Qhp .i64 g1,Qhp .i64 g2] 40):=⟨_,rfl⟩
    obtain⟨W1,hW1⟩:=HW1
    have HWs:Hid (W1.heap.size=wr.heap.size+1):=by show _=_;rw[hW1];simp
    go_wp2_with fail
    rw[←hW1]at s1 s2 s3 s4 hq hownA hbA⊢
    clear hW1
    have hA2:Below W1.heap.size W1 (W1.drew.alloc (Qhr #[.int .i64 (pos X g1),.int .i64 (pos X g2)] 40)):=(Below.refl _ _).drew.alloc (Qhs _) _
    have hvA:(W1.drew.alloc (Qhr #[.int .i64 (pos X g1),.int .i64 (pos X g2)] 40)).ownsRow w.heap.size 40 2 (.slice va L.length vcap) L.length (L.flatMap wc):=hownA.below hA2 (Qhs _)
    have hnw:=Yj (w:=W1.drew) (pos X g1,pos X g2) 40
    have hone:∀u∈wc (pos X g1,pos X g2),u.oneCell'=true:=fun u hu=>by
     simp[wc]at hu
     rcases hu with rfl|rfl<;>rfl
    have hbs2:w.heap.size≤(W1.drew.alloc (Qhr #[.int .i64 (pos X g1),.int .i64 (pos X g2)] 40)).heap.size:=Nat.le_trans hbA.size hA2.size
    have HS:Hid (∀w2,(W1.drew.alloc (Qhr #[.int .i64 (pos X g1),.int .i64 (pos X g2)] 40)).grownBy w2 (Qhu va L.length vcap).ownBlock→(w2.cell? ⟨wr.heap.size,0,none⟩=some (.int .i64 g1)∧w2.cell? ⟨wr.heap.size,1,none⟩=some (.int .i64 g2)∧w2.cell? ⟨b6,off6+g1.toNat,none⟩=some (.int .i64 (pos X g1))∧w2.cell? ⟨b6,off6+g2.toNat,none⟩=some (.int .i64 (pos X g2)))∧Below w.heap.size w w2):=fun w2 hg=>by
     have hb1:b6<W1.heap.size:=by omega
     have ne1:some b6≠(Qhu va L.length vcap).ownBlock:=fun e=>by have:=(hrow b6 e.symm).1;omega
     have ne2:some wr.heap.size≠(Qhu va L.length vcap).ownBlock:=fun e=>by have:=(hrow _ e.symm).2;omega
     refine⟨⟨(hg.cell_far ⟨wr.heap.size,0,none⟩ (Qhx hq hA2.size) ne2).trans ((hA2.cell (p:=⟨wr.heap.size,0,none⟩) hq).trans s3),(hg.cell_far ⟨wr.heap.size,1,none⟩ (Qhx hq hA2.size) ne2).trans ((hA2.cell (p:=⟨wr.heap.size,1,none⟩) hq).trans s4),
      (hg.cell_far ⟨b6,_,none⟩ (Qhx hb1 hA2.size) ne1).trans ((hA2.cell (p:=⟨b6,_,none⟩) hb1).trans s1),(hg.cell_far ⟨b6,_,none⟩ (Qhx hb1 hA2.size) ne1).trans ((hA2.cell (p:=⟨b6,_,none⟩) hb1).trans s2)⟩,?_⟩
     exact(hbA.trans (hA2.mono hbA.size)).trans (QL hg hbs2 (fun k' h'=>(hrow k' h').1))
    have hl3:L.length+1≤maxLen:=by unfold maxLen;omega
    have hl4:(L.length+1)*16≤140737488355328:=by omega
    have hi1:(k:Int)<(ws.length:Int):=by omega
    clear hA2 hrow
    go_region_held3 (fun w'=>w'.cell? ⟨wr.heap.size,0,none⟩=some (.int .i64 g1)∧w'.cell? ⟨wr.heap.size,1,none⟩=some (.int .i64 g2)∧w'.cell? ⟨b6,off6+g1.toNat,none⟩=some (.int .i64 (pos X g1))∧w'.cell? ⟨b6,off6+g2.toNat,none⟩=some (.int .i64 (pos X g2))) (go_keep)
     (first
       |(refine step_append_lies _ rfl _ _ 25 rfl w.heap.size 40 i0 _ 2 16 ((Cut.under_eq 25).trans Tryz.underlying25) hi hz0 hz1 hz2 rfl (by decide) _ _ _ rfl hvA ⟨W1.heap.size,0,none⟩ 1 1 (wc (pos X g1,pos X g2)) rfl rfl hnw hone (by decide) hl3 hl4 hbs2 _ rfl ?_;intro g cap w2 hown2 hgrow hat hlt2;obtain⟨⟨hS1,hS2,hS3,hS4⟩,hb2⟩:=HS.out w2 hgrow))
    all_goals
     have hown3:Hid (Qe w2 w.heap.size (.slice (some ⟨g,0,none⟩) (L.length+1) cap) (Qo (ws.take (k+1)) X)):=by
      show Qe _ _ _ _
      rw[HF'.out]
      unfold Qe
      simpa using hown2
     clear hown2 hgrow hat hvA hnw hone HS
     go_wp2
     go_roundw
     case rel=>exact⟨k+1,by omega,by go_num,hown3.out,hb2⟩
     case measure=>simp[intOf];omega
   ·rw[if_neg hm]at HF
    have hm':decide (0≤pos X g1)=false:=by simpa using hm
    have HF':Hid (Qe (wr.alloc (Qhr #[Qhp .i64 g1,Qhp .i64 g2] 40)) w.heap.size (Qhu va (Qo (ws.take k) X).length vcap) (Qo (ws.take (k+1)) X)):=by
     show Qe _ _ _ _
     rw[HF];exact hownA
    clear HF hm hownA
    go_wp2
    go_roundw
    case rel=>exact⟨k+1,by omega,by go_num,HF'.out,hbA⟩
    case measure=>simp[intOf];omega
  ·have ek:ws.take k=ws:=Qhw (by omega)
   rw[ek]at hown
   clear ek
   go_wp2
   go_ret
   exact⟨_,rfl,hown,hb⟩
theorem QeW (c:Nat)(hc:c≤60)(w:World):Calls Cut.prog 157 #[.int .u64 1,.int .u64 c] w fun e w'=>e=.returned (.tuple #[.int .u64 0,.int .u64 c])∧w'=w:=by
 have hm:bits .and .u64 (c:Int) 4294967295=(c:Int):=by
  rw[Mul64.maskN c (by omega)];omega
 have hm1:bits .and .u64 (1:Int) 4294967295=(1:Int):=by
  have:=Mul64.maskN 1 (by omega)
  simpa using this
 have hm0:bits .and .u64 (0:Int) 4294967295=(0:Int):=by
  have:=Mul64.maskN 0 (by omega)
  simpa using this
 have hd:(c:Int)/4294967296=0:=by omega
 go_enter (Cut.func_of Tryz.func157 rfl),Tryz.ntmps157
 go_wp2
 go_ret2
 exact⟨rfl,rfl⟩
theorem QeX (c:Nat)(hc:c≤60)(w:World):Calls Cut.prog 148 #[.int .u64 1,.int .u64 c] w fun e w'=>e=.returned (.tuple #[.int .u64 0,.int .u64 c])∧w'=w:=by
 have c1:=QeW c hc w
 go_enter (Cut.func_of Tryz.func148 rfl),Tryz.ntmps148
 go_wp2_with fail
 refine c1.mono ?_
 rintro e w1 ⟨rfl,rfl⟩
 go_wp2
 go_ret2
 exact⟨rfl,rfl⟩
def ZF (m n:Nat)(z:Int):List Value:=Qht m (Qhp .i64 z)++Qht (n-m) (Qhp .i64 0)
theorem OS {m n:Nat}{z:Int}(h:m≤n):(ZF m n z).length=n:=by simp[ZF];omega
theorem OT {m n j:Nat}{z:Int}(h:m+j≤n):splice (ZF m n z) m (Qht j (Qhp .i64 z))=ZF (m+j) n z:=by
 unfold splice ZF
 rw[List.take_append_of_le_length (by simp),Qhw (by simp)]
 rw[List.drop_append,List.drop_of_length_le (by simp)]
 simp only[List.length_replicate,List.nil_append,List.drop_replicate]
 rw[←List.append_assoc,List.replicate_append_replicate]
 congr 2
 omega
theorem QeQ {m n:Nat}{z:Int}(k:Nat)(hk:k<m):(ZF m n z)[k]? =some (Qhp .i64 z):=by
 unfold ZF
 rw[List.getElem?_append_left (by simpa using hk)]
 simp[hk]
theorem Qac (j:Nat)(z:Int):∀v∈Qht j (Qhp .i64 z),v.oneCell'=true:=fun v hv=>by
 rw[List.eq_of_mem_replicate hv];rfl
theorem QfK (z:Int)(b o n:Nat)(w:World)(hn:n≤60)(hc:w.cell? ⟨b,o,none⟩=some (.int .i64 z))(hb:b<w.heap.size):
 Calls Cut.prog 127 #[.slice (some ⟨b,o,none⟩) 1 1,.int .i64 n] w fun e w'=>∃g,e=.returned (.slice (some ⟨g,0,none⟩) n n)∧Blk w' g (Qht n (Qhp .i64 z)) 3∧w.heap.size≤g∧Below w.heap.size w w':=by
 obtain⟨i0,hi',hz0,hz1,hz2⟩:=info_parts Ja
 have c1:=QeX n hn w
 go_enter (Cut.func_of Tryz.func127 rfl),Tryz.ntmps127
 go_wp2_with fail
 refine c1.mono ?_
 rintro e w1 ⟨rfl,rfl⟩
 clear c1
 go_wp2_with (at_make;refine wpList_make_full _ rfl _ _ 24 rfl w1.heap.size 3 i0 (.int .i64 0) 1 ((Cut.under_eq 24).trans Tryz.underlying24) hi' hz0 hz1 .i64 .i64 _ _ n rfl rfl rfl rfl ?c1 ?c2 (Qhs _) ?_)
 case c1=>rw[hz2];omega
 case c2=>unfold maxLen;omega
 intro w2 hown hgr
 have hb1:=U7 hgr
 have hk1:=Px hown
 rw[toList_madeCells_one]at hk1
 clear hown hgr
 have hk2:w2.heap[w1.heap.size]? =some (.cells (ZF 0 n z).toArray 3 (0,0)):=by
  have:=hk1
  unfold Blk at this
  rw[this];simp[ZF]
 have hc2:=(hb1.cell (p:=⟨b,o,none⟩) hb).trans hc
 have hsz1:(Cut.prog.info? 3).map (·.size)=some 1:=by rw[hi'];simp[hz1]
 clear hk1
 have hq1:Qhq 1 n≤1:=Nat.min_le_left 1 n
 have hq2:Qhq 1 n≤n:=Nat.min_le_right 1 n
 have HC:∃cs:List Value,cs=Qht (Qhq 1 n) (Qhp .i64 z):=⟨_,rfl⟩
 obtain⟨cs,hcs⟩:=HC
 have hcl:cs.length=Qhq 1 n:=by rw[hcs];simp
 have hcp:0<cs.length→((some ⟨w1.heap.size,0,none⟩:Option Addr)=some ⟨w1.heap.size,0,none⟩∧∃ad,(some ⟨b,o,none⟩:Option Addr)=some ad∧∀j v,cs[j]? =some v→w2.cell? (ad.add j)=some v):=fun _=>⟨rfl,⟨b,o,none⟩,rfl,fun j v hj=>by
  have hj1:j<cs.length:=by
   rcases Nat.lt_or_ge j cs.length with h|h
   ·exact h
   ·rw[List.getElem?_eq_none h]at hj;cases hj
  have h0:j=0:=by rw[hcl]at hj1;omega
  subst h0
  rw[hcs,QhA]at hj
  split at hj
  ·simp at hj;subst hj;simpa[Addr.add]using hc2
  ·cases hj⟩
 have hcf:0+cs.length≤(ZF 0 n z).length:=by rw[OS (Qhv _),hcl];omega
 have hc1:∀v∈cs,v.oneCell'=true:=by rw[hcs];exact Qac _ _
 have HM:Hid (splice (ZF 0 n z) 0 cs=ZF (Qhq 1 n) n z):=by
  show _=_
  have:=OT (m:=0) (n:=n) (j:=Qhq 1 n) (z:=z) (by omega)
  rw[hcs,this,Nat.zero_add]
 have HCL:Hid (cs.length=Qhq 1 n):=hcl
 clear hcs
 go_wp2_with (refine wpList_copy_splice rfl _ _ 24 24 rfl 3 ((Cut.under_eq 24).trans Tryz.underlying24) hsz1 _ _ n n 1 1 rfl rfl w1.heap.size 0 (ZF 0 n z) 3 hk2 cs hcl hcp hcf hc1 w1.heap.size w1 hb1 (Qhs _) ?_)
 intro w3 HK3 hb3
 have hK3:Blk w3 w1.heap.size (ZF (Qhq 1 n) n z) 3:=by
  have:=HK3.out
  rw[HM.out]at this
  exact this
 have hq3:0<n→0<Qhq 1 n:=fun h=>by
  have:Qhq 1 n=1:=Nat.min_eq_left h
  omega
 have hlen:=HCL.out
 generalize Qhq 1 n=q at *
 generalize cs.length=q' at *
 subst hlen
 clear hcp hcf hc1 HK3 HM HCL hk2 hc2
 go_wp2
 go_loopw [8] (fun i wr=>∃m:Nat,i=.int .i64 m∧m≤n∧(0<n→0<m)∧Blk wr w1.heap.size (ZF m n z) 3∧Below w1.heap.size w1 wr) (fun i _=>n-(intOf i).toNat)
 case atStart=>exact⟨_,rfl,by omega,hq3,hK3,hb3⟩
 case round=>
  obtain⟨m,rfl,hmn,hm0,hK,hbm⟩:=hrel
  clear hK3 hb3 hb1 hq3
  by_cases hlt:m<n
  ·have hmp:=hm0 (by omega)
   have hj1:Qhq m (n-m)≤n-m:=Nat.min_le_right m (n-m)
   have hj2:0<Qhq m (n-m):=Nat.lt_min.2 ⟨hmp,by omega⟩
   have hKd:wr.drew.heap[w1.heap.size]? =some (.cells (ZF m n z).toArray 3 (0,0)):=hK
   have HC:∃cs:List Value,cs=Qht (Qhq m (n-m)) (Qhp .i64 z):=⟨_,rfl⟩
   obtain⟨cs2,hcs2⟩:=HC
   have hcl2:cs2.length=Qhq m (n-m):=by rw[hcs2];simp
   have hcp2:0<cs2.length→((some ⟨w1.heap.size,m,none⟩:Option Addr)=some ⟨w1.heap.size,m,none⟩∧∃ad,(some ⟨w1.heap.size,0,none⟩:Option Addr)=some ad∧∀j v,cs2[j]? =some v→wr.drew.cell? (ad.add j)=some v):=fun _=>⟨rfl,⟨w1.heap.size,0,none⟩,rfl,fun j v hj=>by
    have hj3:j<cs2.length:=by
     rcases Nat.lt_or_ge j cs2.length with h|h
     ·exact h
     ·rw[List.getElem?_eq_none h]at hj;cases hj
    have hjm:j<m:=by have:Qhq m (n-m)≤m:=Nat.min_le_left _ _;omega
    rw[hcs2,QhA]at hj
    split at hj
    ·simp at hj;subst hj
     have h1:=(hK.cell j).trans (QeQ j hjm)
     have hadd:(⟨w1.heap.size,0,none⟩:Addr).add j=⟨w1.heap.size,j,none⟩:=by unfold Addr.add;split<;>simp_all
     rw[hadd]
     exact h1
    ·cases hj⟩
   have hcf2:m+cs2.length≤(ZF m n z).length:=by rw[OS hmn,hcl2];omega
   have hc12:∀v∈cs2,v.oneCell'=true:=by rw[hcs2];exact Qac _ _
   have HM2:Hid (splice (ZF m n z) m cs2=ZF (m+Qhq m (n-m)) n z):=by
    show _=_
    rw[hcs2]
    exact OT (by omega)
   have HCL2:Hid (cs2.length=Qhq m (n-m)):=hcl2
   have HCP2:Hid (0<cs2.length→(∃ad,(some ⟨w1.heap.size,0,none⟩:Option Addr)=some ad∧∀j v,cs2[j]? =some v→wr.drew.cell? (ad.add j)=some v)):=fun h=>(hcp2 h).2
   rw[←hcl2]at hj1 hj2 HM2
   obtain⟨q2,hq2⟩:∃q,q=cs2.length:=⟨_,rfl⟩
   rw[←hq2]at hj1 hj2 HM2
   have HQ:Hid (q2=cs2.length):=hq2
   clear hcl2 hcp2 hq2
   have hi1:(m:Int)<(n:Int):=by omega
   have hi2:(m:Int)≤(n:Int):=by omega
   have hnm:¬n=m:=by omega
   have hnm2:¬m=n:=by omega
   clear hcs2
   go_wp2_with fail
   go_region_held3 (fun _=>True) (trivial)
    (first
      |(refine step_copy_splice rfl _ _ 24 24 rfl 3 ((Cut.under_eq 24).trans Tryz.underlying24) hsz1 (some ⟨w1.heap.size,m,none⟩) (some ⟨w1.heap.size,0,none⟩) (n-m) (n-m) m n rfl rfl w1.heap.size m (ZF m n z) 3 hKd cs2 HCL2.out (fun h=>⟨rfl,HCP2.out h⟩) hcf2 hc12 w1.heap.size w1 hbm.drew (Qhs _) ?_;intro w4 HK4 hb4))
   all_goals
    have hK5:Hid (Blk w4 w1.heap.size (ZF (m+q2) n z) 3):=by
     show Blk _ _ _ _
     have:=HK4.out
     rw[HM2.out]at this
     exact this
    have hl5:=HQ.out
    clear hcf2 hc12 HK4 HM2 HCL2 hKd HCP2 HQ
    generalize cs2.length=q3 at *
    subst hl5
    have hwr:IntKind.i64.wrap ((m:Int)+(q2:Int))=((m+q2:Nat):Int):=by rw[IntKind.wrap_i64];omega
    go_wp2
    go_roundw
    case rel=>exact⟨m+q2,by first|go_num|rw[hwr],by omega,fun _=>by omega,hK5.out,hb4⟩
    case measure=>simp[intOf];omega
  ·have em:m=n:=by omega
   have hKn:Blk wr w1.heap.size (Qht n (Qhp .i64 z)) 3:=by
    have:=hK
    rw[em]at this
    simpa[ZF]using this
   clear em hK
   go_wp2
   go_ret
   exact⟨_,rfl,hKn,Qhs _,hbm⟩
theorem Qhh (n:Nat)(X:List Int)(xa:Option Addr)(xcap:Nat)(w:World)(hn:n≤60)(hx:Qk w xa X)(hp:Qq n X):
 Calls Cut.prog 97 #[.slice xa X.length xcap,.int .i64 n] w fun e w'=>∃g,e=.returned (.slice (some ⟨g,0,none⟩) n n)∧Blk w' g ((whs X n).map (Qhp .i64)) 3∧w.heap.size≤g∧Below w.heap.size w w':=by
 have hA:Below w.heap.size w (w.alloc (Qhr #[Qhp .i64 (-1)] 3)):=(Below.refl _ _).alloc (Qhs _) _
 have c1:=QfK (-1) w.heap.size 0 n (w.alloc (Qhr #[Qhp .i64 (-1)] 3)) hn ((Blk.new w [Qhp .i64 (-1)] 3).cell 0) (by simp)
 have hXl:=hp.len
 go_enter (Cut.func_of Tryz.func97 rfl),Tryz.ntmps97
 go_wp2_with fail
 refine c1.mono ?_
 rintro e w1 ⟨g,rfl,hK1,hg1,hb1⟩
 have hgw:w.heap.size≤g:=Nat.le_trans (by simp) hg1
 have hB1:=hA.trans (hb1.mono hA.size)
 have hK2:Blk w1 g ((whs (X.take 0) n).map (Qhp .i64)) 3:=by
  have:(whs (X.take 0) n).map (Qhp .i64)=Qht n (Qhp .i64 (-1)):=by
   rw[List.take_zero,Qbh];simp
  rw[this];exact hK1
 clear c1 hA hb1 hK1 hg1
 go_wp2
 go_loopw [6,7,13] (fun _ _ i wr=>∃k:Nat,k≤X.length∧i=.int .i64 k∧Blk wr g ((whs (X.take k) n).map (Qhp .i64)) 3∧Below w.heap.size w wr) (fun _ _ i _=>X.length-(intOf i).toNat)
 case atStart=>exact⟨0,Qhv _,rfl,hK2,hB1⟩
 case round=>
  obtain⟨k,hk,rfl,hK,hb⟩:=hrel
  clear hK2 hB1
  by_cases hlt:k<X.length
  ·obtain⟨b,off,rfl,hbw,e1⟩:=hx.get hlt
   have d1:=(hb.cell (p:=⟨b,off+k,none⟩) hbw).trans e1
   have hz:=hp.rng X[k] (Qhy hlt)
   have hnd:=Qe8 hp.nd hlt
   have HK:Hid (Blk (wr.setCell ⟨g,X[k].toNat,none⟩ (.int .i64 k)) g ((whs (X.take (k+1)) n).map (Qhp .i64)) 3):=by
    show Blk _ _ _ _
    have h1:=hK.store X[k].toNat (.int .i64 k)
    have h2:(whs (X.take (k+1)) n).map (Qhp .i64)=((whs (X.take k) n).map (Qhp .i64)).set X[k].toNat (.int .i64 k):=by
     rw[Qhz hlt,Qbi _ _ _ hnd hz.1,List.map_set,List.length_take,Nat.min_eq_left (by omega)]
    rw[h2];exact h1
   have hfz:=hK.free X[k].toNat
   have hzl:X[k].toNat<((whs (X.take k) n).map (Qhp .i64)).length:=by rw[List.length_map,JM];omega
   obtain⟨v,hv⟩:∃v,wr.cell? ⟨g,X[k].toNat,none⟩=some v:=⟨_,(hK.cell _).trans (List.getElem?_eq_getElem hzl)⟩
   have hsb:=hb.setCell (p:=⟨g,X[k].toNat,none⟩) hgw (.int .i64 k)
   obtain⟨hz0,hz1⟩:=hz
   clear e1 hnd hK hzl
   go_wp2
   go_roundw
   case rel=>exact⟨k+1,by omega,by go_num,HK.out,hsb⟩
   case measure=>simp[intOf];omega
  ·have ek:X.take k=X:=Qhw (by omega)
   rw[ek]at hK
   clear ek
   go_wp2
   go_ret
   exact⟨_,rfl,hK,hgw,hb⟩
end
end Go.Proofs.YtcpnkpogebjieaaGreat
