/- The program's own looking the same: what guardians watch, by where it is. -/
import Derived.Test.YtcpnkpogebjieaaGreatG15Si1
import Derived.Shelf.Bits.Mul64
import Derived.Laws.CopyOwn
import Derived.Deep.RegionLaw
import Derived.Test.YtcpnkpogebjieaaGreatG10Vc
open Go.Value renaming int→Qhp,slice→Qhu
open Nat renaming min→Qhq,le_refl→Qhs,lt_of_lt_of_le→Qhv,zero_le→Qhx,le_trans→Qhy,zero_add→Qhz
open Go.Obj renaming cells→Qhr
open List renaming replicate→Qht,getElem?_eq_getElem→Qhw,getElem_append_left→QhA,take_of_length_le→QhB,getElem?_replicate→QhC
set_option maxHeartbeats 1600000
set_option maxRecDepth 100000
namespace Go.Proofs.YtcpnkpogebjieaaGreat
section
open Go.RowKit
theorem PK (n:Nat)(X:List Int)(wa:Option Addr)(wcap:Nat)(ws:List (Int×Int))(ya:Option Addr)(ycap:Nat)(w:World)(hw:QG w wa ws)(hwl:ws.length≤1048576)(hy:Qk w ya (whs X n))(hr:∀p∈ws,(0≤p.1∧p.1<n)∧(0≤p.2∧p.2<n)):
 Calls Cut.prog 107 #[.slice wa ws.length wcap,.slice ya n ycap] w fun e w'=>∃v',e=.returned v'∧Qe w' w.heap.size v' (Qn ws X)∧Below w.heap.size w w':=by
 obtain⟨i0,hi,hz0,hz1,hz2⟩:=info_parts Jx
 go_enter (Cut.func_of Tryz.func107 rfl),Tryz.ntmps107
 go_wp2
 go_loopw [5,7,10] (fun v _ i wr=>∃k:Nat,k≤ws.length∧i=.int .i64 k∧Qe wr w.heap.size v (Qn (ws.take k) X)∧Below w.heap.size w wr) (fun _ _ i _=>ws.length-(intOf i).toNat)
 case atStart=>exact⟨0,Qhx _,rfl,World.ownsRow_nil _ _ _ _,Below.refl _ _⟩
 case round=>
  obtain⟨k,hk,rfl,hown,hb⟩:=hrel
  by_cases hlt:k<ws.length
  ·obtain⟨b,off,rfl,hbw,e1,e2⟩:=hw.get hlt
   have d1:=(hb.cell (p:=⟨b,off+k*2,none⟩) hbw).trans e1
   have d2:=(hb.cell (p:=⟨b,off+k*2+1,none⟩) hbw).trans e2
   have HF:=QdH ws X k hlt
   have hfl:=Qg3 ws X k
   obtain⟨⟨h10,h11⟩,h20,h21⟩:=hr ws[k] (List.getElem_mem hlt)
   clear e1 e2
   generalize ws[k].1=g1 at *
   generalize ws[k].2=g2 at *
   have hl1:g1.toNat<(whs X n).length:=by rw[JC];omega
   have hl2:g2.toNat<(whs X n).length:=by rw[JC];omega
   obtain⟨b6,off6,q6,hb6,f1⟩:=hy.get hl1
   obtain⟨b7,off7,q7,hb7,f2⟩:=hy.get hl2
   rw[UD _ _ _ h10]at f1
   rw[UD _ _ _ h20]at f2
   rw[q6]at q7
   simp only[Option.some.injEq,Addr.mk.injEq,and_true]at q7
   obtain⟨rfl,rfl⟩:=q7
   subst q6
   have hbs:=hb.size
   have hA:Below wr.heap.size wr (wr.alloc (Qhr #[Qhp .i64 g1,Qhp .i64 g2] 40)):=(Below.refl _ _).alloc (Qhs _) _
   have hbA:=hb.trans (hA.mono hb.size)
   have s1:=(hbA.cell (p:=⟨b6,off6+g1.toNat,none⟩) hb6).trans f1
   have s2:=(hbA.cell (p:=⟨b6,off6+g2.toNat,none⟩) hb6).trans f2
   have hownA:=Qe.below hown hA (Qhs _)
   have hq:wr.heap.size<(wr.alloc (Qhr #[Qhp .i64 g1,Qhp .i64 g2] 40)).heap.size:=by simp
   have s3:(wr.alloc (Qhr #[Qhp .i64 g1,Qhp .i64 g2] 40)).cell? ⟨wr.heap.size,0,none⟩=some (.int .i64 g1):=(Blk.new wr [Qhp .i64 g1,Qhp .i64 g2] 40).cell 0
   have s4:(wr.alloc (Qhr #[Qhp .i64 g1,Qhp .i64 g2] 40)).cell? ⟨wr.heap.size,1,none⟩=some (.int .i64 g2):=(Blk.new wr [Qhp .i64 g1,Qhp .i64 g2] 40).cell 1
   obtain⟨va,vcap,rfl,-⟩:=hown.form
   have hrow:=fun k' h'=>hown.lt k' h'
   clear f1 f2 hown hA
   by_cases hm:decide (0≤pos X g1)=true
   ·rw[if_pos hm]at HF
    have HF':Hid (Qn (ws.take (k+1)) X=Qn (ws.take k) X++ [(pos X g1,pos X g2)]):=HF
    clear HF
    generalize hL:Qn (ws.take k) X=L at *
    have HL:Hid (Qn (ws.take k) X=L):=hL
    clear hL
    have HW1:∃W1,W1=wr.alloc (Qhr #[Qhp .i64 g1,Qhp .i64 g2] 40):=⟨_,rfl⟩
    obtain⟨W1,hW1⟩:=HW1
    have HWs:Hid (W1.heap.size=wr.heap.size+1):=by show _=_;rw[hW1];simp
    go_wp2_with fail
    rw[←hW1]at s1 s2 s3 s4 hq hownA hbA⊢
    clear hW1
    have hA2:Below W1.heap.size W1 (W1.drew.alloc (Qhr #[.int .i64 (pos X g1),.int .i64 (pos X g2)] 40)):=(Below.refl _ _).drew.alloc (Qhs _) _
    have hvA:(W1.drew.alloc (Qhr #[.int .i64 (pos X g1),.int .i64 (pos X g2)] 40)).ownsRow w.heap.size 40 2 (.slice va L.length vcap) L.length (L.flatMap wc):=hownA.below hA2 (Qhs _)
    have hnw:=Yd (w:=W1.drew) (pos X g1,pos X g2) 40
    have hone:∀u∈wc (pos X g1,pos X g2),u.oneCell'=true:=fun u hu=>by
     simp[wc]at hu
     rcases hu with rfl|rfl<;>rfl
    have hbs2:w.heap.size≤(W1.drew.alloc (Qhr #[.int .i64 (pos X g1),.int .i64 (pos X g2)] 40)).heap.size:=Qhy hbA.size hA2.size
    have HS:Hid (∀w2,(W1.drew.alloc (Qhr #[.int .i64 (pos X g1),.int .i64 (pos X g2)] 40)).grownBy w2 (Qhu va L.length vcap).ownBlock→(w2.cell? ⟨wr.heap.size,0,none⟩=some (.int .i64 g1)∧w2.cell? ⟨wr.heap.size,1,none⟩=some (.int .i64 g2)∧w2.cell? ⟨b6,off6+g1.toNat,none⟩=some (.int .i64 (pos X g1))∧w2.cell? ⟨b6,off6+g2.toNat,none⟩=some (.int .i64 (pos X g2)))∧Below w.heap.size w w2):=fun w2 hg=>by
     have hb1:b6<W1.heap.size:=by omega
     have ne1:some b6≠(Qhu va L.length vcap).ownBlock:=fun e=>by have:=(hrow b6 e.symm).1;omega
     have ne2:some wr.heap.size≠(Qhu va L.length vcap).ownBlock:=fun e=>by have:=(hrow _ e.symm).2;omega
     refine⟨⟨(hg.cell_far ⟨wr.heap.size,0,none⟩ (Qhv hq hA2.size) ne2).trans ((hA2.cell (p:=⟨wr.heap.size,0,none⟩) hq).trans s3),(hg.cell_far ⟨wr.heap.size,1,none⟩ (Qhv hq hA2.size) ne2).trans ((hA2.cell (p:=⟨wr.heap.size,1,none⟩) hq).trans s4),
      (hg.cell_far ⟨b6,_,none⟩ (Qhv hb1 hA2.size) ne1).trans ((hA2.cell (p:=⟨b6,_,none⟩) hb1).trans s1),(hg.cell_far ⟨b6,_,none⟩ (Qhv hb1 hA2.size) ne1).trans ((hA2.cell (p:=⟨b6,_,none⟩) hb1).trans s2)⟩,?_⟩
     exact(hbA.trans (hA2.mono hbA.size)).trans (QL hg hbs2 (fun k' h'=>(hrow k' h').1))
    have hl3:L.length+1≤maxLen:=by unfold maxLen;omega
    have hl4:(L.length+1)*16≤140737488355328:=by omega
    have hi1:(k:Int)<(ws.length:Int):=by omega
    clear hA2 hrow
    go_region_held3 (fun w'=>w'.cell? ⟨wr.heap.size,0,none⟩=some (.int .i64 g1)∧w'.cell? ⟨wr.heap.size,1,none⟩=some (.int .i64 g2)∧w'.cell? ⟨b6,off6+g1.toNat,none⟩=some (.int .i64 (pos X g1))∧w'.cell? ⟨b6,off6+g2.toNat,none⟩=some (.int .i64 (pos X g2))) (go_keep)
     (first
       |(refine step_append_lies _ rfl _ _ 25 rfl w.heap.size 40 i0 _ 2 16 ((Cut.under_eq 25).trans Tryz.underlying25) hi hz0 hz1 hz2 rfl (by decide) _ _ _ rfl hvA ⟨W1.heap.size,0,none⟩ 1 1 (wc (pos X g1,pos X g2)) rfl rfl hnw hone (by decide) hl3 hl4 hbs2 _ rfl ?_;intro g cap w2 hown2 hgrow hat hlt2;obtain⟨⟨hS1,hS2,hS3,hS4⟩,hb2⟩:=HS.out w2 hgrow))
    all_goals
     have hown3:Hid (Qe w2 w.heap.size (.slice (some ⟨g,0,none⟩) (L.length+1) cap) (Qn (ws.take (k+1)) X)):=by
      show Qe _ _ _ _
      rw[HF'.out]
      unfold Qe
      simpa using hown2
     clear hown2 hgrow hat hvA hnw hone HS
     go_wp2
     go_roundw
     case rel=>exact⟨k+1,by omega,by go_num,hown3.out,hb2⟩
     case measure=>simp[intOf];omega
   ·rw[if_neg hm]at HF
    have hm':decide (0≤pos X g1)=false:=by simpa using hm
    have HF':Hid (Qe (wr.alloc (Qhr #[Qhp .i64 g1,Qhp .i64 g2] 40)) w.heap.size (Qhu va (Qn (ws.take k) X).length vcap) (Qn (ws.take (k+1)) X)):=by
     show Qe _ _ _ _
     rw[HF];exact hownA
    clear HF hm hownA
    go_wp2
    go_roundw
    case rel=>exact⟨k+1,by omega,by go_num,HF'.out,hbA⟩
    case measure=>simp[intOf];omega
  ·have ek:ws.take k=ws:=QhB (by omega)
   rw[ek]at hown
   clear ek
   go_wp2
   go_ret
   exact⟨_,rfl,hown,hb⟩
theorem Qc0 (c:Nat)(hc:c≤60)(w:World):Calls Cut.prog 157 #[.int .u64 1,.int .u64 c] w fun e w'=>e=.returned (.tuple #[.int .u64 0,.int .u64 c])∧w'=w:=by
 have hm:bits .and .u64 (c:Int) 4294967295=(c:Int):=by
  rw[Mul64.maskN c (by omega)];omega
 have hm1:bits .and .u64 (1:Int) 4294967295=(1:Int):=by
  have:=Mul64.maskN 1 (by omega)
  simpa using this
 have hm0:bits .and .u64 (0:Int) 4294967295=(0:Int):=by
  have:=Mul64.maskN 0 (by omega)
  simpa using this
 have hd:(c:Int)/4294967296=0:=by omega
 go_enter (Cut.func_of Tryz.func157 rfl),Tryz.ntmps157
 go_wp2
 go_ret2
 exact⟨rfl,rfl⟩
theorem Qer (c:Nat)(hc:c≤60)(w:World):Calls Cut.prog 148 #[.int .u64 1,.int .u64 c] w fun e w'=>e=.returned (.tuple #[.int .u64 0,.int .u64 c])∧w'=w:=by
 have c1:=Qc0 c hc w
 go_enter (Cut.func_of Tryz.func148 rfl),Tryz.ntmps148
 go_wp2_with fail
 refine c1.mono ?_
 rintro e w1 ⟨rfl,rfl⟩
 go_wp2
 go_ret2
 exact⟨rfl,rfl⟩
def ZD (m n:Nat)(z:Int):List Value:=Qht m (Qhp .i64 z)++Qht (n-m) (Qhp .i64 0)
theorem O6 {m n:Nat}{z:Int}(h:m≤n):(ZD m n z).length=n:=by simp[ZD];omega
theorem O0 {m n j:Nat}{z:Int}(h:m+j≤n):splice (ZD m n z) m (Qht j (Qhp .i64 z))=ZD (m+j) n z:=by
 unfold splice ZD
 rw[List.take_append_of_le_length (by simp),QhB (by simp)]
 rw[List.drop_append,List.drop_of_length_le (by simp)]
 simp only[List.length_replicate,List.nil_append,List.drop_replicate]
 rw[←List.append_assoc,List.replicate_append_replicate]
 congr 2
 omega
theorem Qfl {m n:Nat}{z:Int}(k:Nat)(hk:k<m):(ZD m n z)[k]? =some (Qhp .i64 z):=by
 unfold ZD
 rw[List.getElem?_append_left (by simpa using hk)]
 simp[hk]
theorem Oh (j:Nat)(z:Int):∀v∈Qht j (Qhp .i64 z),v.oneCell'=true:=fun v hv=>by
 rw[List.eq_of_mem_replicate hv];rfl
theorem Qhh (z:Int)(b o n:Nat)(w:World)(hn:n≤60)(hc:w.cell? ⟨b,o,none⟩=some (.int .i64 z))(hb:b<w.heap.size):
 Calls Cut.prog 127 #[.slice (some ⟨b,o,none⟩) 1 1,.int .i64 n] w fun e w'=>∃g,e=.returned (.slice (some ⟨g,0,none⟩) n n)∧Blk w' g (Qht n (Qhp .i64 z)) 3∧w.heap.size≤g∧Below w.heap.size w w':=by
 obtain⟨i0,hi',hz0,hz1,hz2⟩:=info_parts Z5
 have c1:=Qer n hn w
 go_enter (Cut.func_of Tryz.func127 rfl),Tryz.ntmps127
 go_wp2_with fail
 refine c1.mono ?_
 rintro e w1 ⟨rfl,rfl⟩
 clear c1
 go_wp2_with (at_make;refine wpList_make_full _ rfl _ _ 24 rfl w1.heap.size 3 i0 (.int .i64 0) 1 ((Cut.under_eq 24).trans Tryz.underlying24) hi' hz0 hz1 .i64 .i64 _ _ n rfl rfl rfl rfl ?c1 ?c2 (Qhs _) ?_)
 case c1=>rw[hz2];omega
 case c2=>unfold maxLen;omega
 intro w2 hown hgr
 have hb1:=UZ hgr
 have hk1:=QaV hown
 rw[toList_madeCells_one]at hk1
 clear hown hgr
 have hk2:w2.heap[w1.heap.size]? =some (.cells (ZD 0 n z).toArray 3 (0,0)):=by
  have:=hk1
  unfold Blk at this
  rw[this];simp[ZD]
 have hc2:=(hb1.cell (p:=⟨b,o,none⟩) hb).trans hc
 have hsz1:(Cut.prog.info? 3).map (·.size)=some 1:=by rw[hi'];simp[hz1]
 clear hk1
 have hq1:Qhq 1 n≤1:=Nat.min_le_left 1 n
 have hq2:Qhq 1 n≤n:=Nat.min_le_right 1 n
 have HC:∃cs:List Value,cs=Qht (Qhq 1 n) (Qhp .i64 z):=⟨_,rfl⟩
 obtain⟨cs,hcs⟩:=HC
 have hcl:cs.length=Qhq 1 n:=by rw[hcs];simp
 have hcp:0<cs.length→((some ⟨w1.heap.size,0,none⟩:Option Addr)=some ⟨w1.heap.size,0,none⟩∧∃ad,(some ⟨b,o,none⟩:Option Addr)=some ad∧∀j v,cs[j]? =some v→w2.cell? (ad.add j)=some v):=fun _=>⟨rfl,⟨b,o,none⟩,rfl,fun j v hj=>by
  have hj1:j<cs.length:=by
   rcases Nat.lt_or_ge j cs.length with h|h
   ·exact h
   ·rw[List.getElem?_eq_none h]at hj;cases hj
  have h0:j=0:=by rw[hcl]at hj1;omega
  subst h0
  rw[hcs,QhC]at hj
  split at hj
  ·simp at hj;subst hj;simpa[Addr.add]using hc2
  ·cases hj⟩
 have hcf:0+cs.length≤(ZD 0 n z).length:=by rw[O6 (Qhx _),hcl];omega
 have hc1:∀v∈cs,v.oneCell'=true:=by rw[hcs];exact Oh _ _
 have HM:Hid (splice (ZD 0 n z) 0 cs=ZD (Qhq 1 n) n z):=by
  show _=_
  have:=O0 (m:=0) (n:=n) (j:=Qhq 1 n) (z:=z) (by omega)
  rw[hcs,this,Qhz]
 have HCL:Hid (cs.length=Qhq 1 n):=hcl
 clear hcs
 go_wp2_with (refine wpList_copy_splice rfl _ _ 24 24 rfl 3 ((Cut.under_eq 24).trans Tryz.underlying24) hsz1 _ _ n n 1 1 rfl rfl w1.heap.size 0 (ZD 0 n z) 3 hk2 cs hcl hcp hcf hc1 w1.heap.size w1 hb1 (Qhs _) ?_)
 intro w3 HK3 hb3
 have hK3:Blk w3 w1.heap.size (ZD (Qhq 1 n) n z) 3:=by
  have:=HK3.out
  rw[HM.out]at this
  exact this
 have hq3:0<n→0<Qhq 1 n:=fun h=>by
  have:Qhq 1 n=1:=Nat.min_eq_left h
  omega
 have hlen:=HCL.out
 generalize Qhq 1 n=q at *
 generalize cs.length=q' at *
 subst hlen
 clear hcp hcf hc1 HK3 HM HCL hk2 hc2
 go_wp2
 go_loopw [8] (fun i wr=>∃m:Nat,i=.int .i64 m∧m≤n∧(0<n→0<m)∧Blk wr w1.heap.size (ZD m n z) 3∧Below w1.heap.size w1 wr) (fun i _=>n-(intOf i).toNat)
 case atStart=>exact⟨_,rfl,by omega,hq3,hK3,hb3⟩
 case round=>
  obtain⟨m,rfl,hmn,hm0,hK,hbm⟩:=hrel
  clear hK3 hb3 hb1 hq3
  by_cases hlt:m<n
  ·have hmp:=hm0 (by omega)
   have hj1:Qhq m (n-m)≤n-m:=Nat.min_le_right m (n-m)
   have hj2:0<Qhq m (n-m):=Nat.lt_min.2 ⟨hmp,by omega⟩
   have hKd:wr.drew.heap[w1.heap.size]? =some (.cells (ZD m n z).toArray 3 (0,0)):=hK
   have HC:∃cs:List Value,cs=Qht (Qhq m (n-m)) (Qhp .i64 z):=⟨_,rfl⟩
   obtain⟨cs2,hcs2⟩:=HC
   have hcl2:cs2.length=Qhq m (n-m):=by rw[hcs2];simp
   have hcp2:0<cs2.length→((some ⟨w1.heap.size,m,none⟩:Option Addr)=some ⟨w1.heap.size,m,none⟩∧∃ad,(some ⟨w1.heap.size,0,none⟩:Option Addr)=some ad∧∀j v,cs2[j]? =some v→wr.drew.cell? (ad.add j)=some v):=fun _=>⟨rfl,⟨w1.heap.size,0,none⟩,rfl,fun j v hj=>by
    have hj3:j<cs2.length:=by
     rcases Nat.lt_or_ge j cs2.length with h|h
     ·exact h
     ·rw[List.getElem?_eq_none h]at hj;cases hj
    have hjm:j<m:=by have:Qhq m (n-m)≤m:=Nat.min_le_left _ _;omega
    rw[hcs2,QhC]at hj
    split at hj
    ·simp at hj;subst hj
     have h1:=(hK.cell j).trans (Qfl j hjm)
     have hadd:(⟨w1.heap.size,0,none⟩:Addr).add j=⟨w1.heap.size,j,none⟩:=by unfold Addr.add;split<;>simp_all
     rw[hadd]
     exact h1
    ·cases hj⟩
   have hcf2:m+cs2.length≤(ZD m n z).length:=by rw[O6 hmn,hcl2];omega
   have hc12:∀v∈cs2,v.oneCell'=true:=by rw[hcs2];exact Oh _ _
   have HM2:Hid (splice (ZD m n z) m cs2=ZD (m+Qhq m (n-m)) n z):=by
    show _=_
    rw[hcs2]
    exact O0 (by omega)
   have HCL2:Hid (cs2.length=Qhq m (n-m)):=hcl2
   have HCP2:Hid (0<cs2.length→(∃ad,(some ⟨w1.heap.size,0,none⟩:Option Addr)=some ad∧∀j v,cs2[j]? =some v→wr.drew.cell? (ad.add j)=some v)):=fun h=>(hcp2 h).2
   rw[←hcl2]at hj1 hj2 HM2
   obtain⟨q2,hq2⟩:∃q,q=cs2.length:=⟨_,rfl⟩
   rw[←hq2]at hj1 hj2 HM2
   have HQ:Hid (q2=cs2.length):=hq2
   clear hcl2 hcp2 hq2
   have hi1:(m:Int)<(n:Int):=by omega
   have hi2:(m:Int)≤(n:Int):=by omega
   have hnm:¬n=m:=by omega
   have hnm2:¬m=n:=by omega
   clear hcs2
   go_wp2_with fail
   go_region_held3 (fun _=>True) (trivial)
    (first
      |(refine step_copy_splice rfl _ _ 24 24 rfl 3 ((Cut.under_eq 24).trans Tryz.underlying24) hsz1 (some ⟨w1.heap.size,m,none⟩) (some ⟨w1.heap.size,0,none⟩) (n-m) (n-m) m n rfl rfl w1.heap.size m (ZD m n z) 3 hKd cs2 HCL2.out (fun h=>⟨rfl,HCP2.out h⟩) hcf2 hc12 w1.heap.size w1 hbm.drew (Qhs _) ?_;intro w4 HK4 hb4))
   all_goals
    have hK5:Hid (Blk w4 w1.heap.size (ZD (m+q2) n z) 3):=by
     show Blk _ _ _ _
     have:=HK4.out
     rw[HM2.out]at this
     exact this
    have hl5:=HQ.out
    clear hcf2 hc12 HK4 HM2 HCL2 hKd HCP2 HQ
    generalize cs2.length=q3 at *
    subst hl5
    have hwr:IntKind.i64.wrap ((m:Int)+(q2:Int))=((m+q2:Nat):Int):=by rw[IntKind.wrap_i64];omega
    go_wp2
    go_roundw
    case rel=>exact⟨m+q2,by first|go_num|rw[hwr],by omega,fun _=>by omega,hK5.out,hb4⟩
    case measure=>simp[intOf];omega
  ·have em:m=n:=by omega
   have hKn:Blk wr w1.heap.size (Qht n (Qhp .i64 z)) 3:=by
    have:=hK
    rw[em]at this
    simpa[ZD]using this
   clear em hK
   go_wp2
   go_ret
   exact⟨_,rfl,hKn,Qhs _,hbm⟩
theorem Qbq (n:Nat)(X:List Int)(xa:Option Addr)(xcap:Nat)(w:World)(hn:n≤60)(hx:Qk w xa X)(hp:Qq n X):
 Calls Cut.prog 97 #[.slice xa X.length xcap,.int .i64 n] w fun e w'=>∃g,e=.returned (.slice (some ⟨g,0,none⟩) n n)∧Blk w' g ((whs X n).map (Qhp .i64)) 3∧w.heap.size≤g∧Below w.heap.size w w':=by
 have hA:Below w.heap.size w (w.alloc (Qhr #[Qhp .i64 (-1)] 3)):=(Below.refl _ _).alloc (Qhs _) _
 have c1:=Qhh (-1) w.heap.size 0 n (w.alloc (Qhr #[Qhp .i64 (-1)] 3)) hn ((Blk.new w [Qhp .i64 (-1)] 3).cell 0) (by simp)
 have hXl:=hp.len
 go_enter (Cut.func_of Tryz.func97 rfl),Tryz.ntmps97
 go_wp2_with fail
 refine c1.mono ?_
 rintro e w1 ⟨g,rfl,hK1,hg1,hb1⟩
 have hgw:w.heap.size≤g:=Qhy (by simp) hg1
 have hB1:=hA.trans (hb1.mono hA.size)
 have hK2:Blk w1 g ((whs (X.take 0) n).map (Qhp .i64)) 3:=by
  have:(whs (X.take 0) n).map (Qhp .i64)=Qht n (Qhp .i64 (-1)):=by
   rw[List.take_zero,Qaa];simp
  rw[this];exact hK1
 clear c1 hA hb1 hK1 hg1
 go_wp2
 go_loopw [6,7,13] (fun _ _ i wr=>∃k:Nat,k≤X.length∧i=.int .i64 k∧Blk wr g ((whs (X.take k) n).map (Qhp .i64)) 3∧Below w.heap.size w wr) (fun _ _ i _=>X.length-(intOf i).toNat)
 case atStart=>exact⟨0,Qhx _,rfl,hK2,hB1⟩
 case round=>
  obtain⟨k,hk,rfl,hK,hb⟩:=hrel
  clear hK2 hB1
  by_cases hlt:k<X.length
  ·obtain⟨b,off,rfl,hbw,e1⟩:=hx.get hlt
   have d1:=(hb.cell (p:=⟨b,off+k,none⟩) hbw).trans e1
   have hz:=hp.rng X[k] (List.getElem_mem hlt)
   have hnd:=Qde hp.nd hlt
   have HK:Hid (Blk (wr.setCell ⟨g,X[k].toNat,none⟩ (.int .i64 k)) g ((whs (X.take (k+1)) n).map (Qhp .i64)) 3):=by
    show Blk _ _ _ _
    have h1:=hK.store X[k].toNat (.int .i64 k)
    have h2:(whs (X.take (k+1)) n).map (Qhp .i64)=((whs (X.take k) n).map (Qhp .i64)).set X[k].toNat (.int .i64 k):=by
     rw[List.take_succ_eq_append_getElem hlt,PH _ _ _ hnd hz.1,List.map_set,List.length_take,Nat.min_eq_left (by omega)]
    rw[h2];exact h1
   have hfz:=hK.free X[k].toNat
   have hzl:X[k].toNat<((whs (X.take k) n).map (Qhp .i64)).length:=by rw[List.length_map,JC];omega
   obtain⟨v,hv⟩:∃v,wr.cell? ⟨g,X[k].toNat,none⟩=some v:=⟨_,(hK.cell _).trans (Qhw hzl)⟩
   have hsb:=hb.setCell (p:=⟨g,X[k].toNat,none⟩) hgw (.int .i64 k)
   obtain⟨hz0,hz1⟩:=hz
   clear e1 hnd hK hzl
   go_wp2
   go_roundw
   case rel=>exact⟨k+1,by omega,by go_num,HK.out,hsb⟩
   case measure=>simp[intOf];omega
  ·have ek:X.take k=X:=QhB (by omega)
   rw[ek]at hK
   clear ek
   go_wp2
   go_ret
   exact⟨_,rfl,hK,hgw,hb⟩
theorem Zx {w:World}{base e size n k:Nat}{v:Value}{xs:List Value}(h:w.ownsRow base e size v n xs)(hk:v.ownBlock=some k):∃cur,w.heap[k]? =some (.cells cur e (0,0)):=by
 rcases h.2 with⟨h1,_⟩|⟨g,cap,cur,h1,_,hh,_⟩
 ·rw[h1]at hk;simp[Value.ownBlock]at hk
 ·rw[h1]at hk
  simp[Value.ownBlock]at hk
  subst hk
  exact⟨cur,hh⟩
theorem Ua {w:World}{base e size n base' e' size' n':Nat}{v v':Value}{xs xs':List Value}(h:w.ownsRow base e size v n xs)(h':w.ownsRow base' e' size' v' n' xs')(he:e≠e'):v.ownBlock=none∨v.ownBlock≠v'.ownBlock:=by
 cases hk:v.ownBlock with
 |none=>exact Or.inl rfl
 |some k=>
  refine Or.inr fun e1=>?_
  obtain⟨c1,q1⟩:=Zx h hk
  obtain⟨c2,q2⟩:=Zx h' e1.symm
  rw[q1]at q2
  simp at q2
  exact he q2.2
theorem Qr {w:World}{base e size n B t:Nat}{v:Value}{xs cs:List Value}(h:w.ownsRow base e size v n xs)(hb:Blk w B cs t)(ht:t≠e):v.ownBlock≠some B:=by
 intro hk
 obtain⟨c1,q1⟩:=Zx h hk
 unfold Blk at hb
 rw[hb]at q1
 simp at q1
 exact ht q1.2
def Qu (w:World)(base:Nat)(v:Value)(l:List Ob):Prop:=w.ownsRow base 37 3 v l.length (l.flatMap Ob.cs)
theorem Qu.lt {w:World}{base:Nat}{v:Value}{l:List Ob}(h:Qu w base v l):∀k,v.ownBlock=some k→base≤k∧k<w.heap.size:=World.ownsRow.lt h
theorem Qu.below {w w':World}{base B:Nat}{v:Value}{l:List Ob}(h:Qu w base v l)(hb:Below B w w')(hB:w.heap.size≤B):Qu w' base v l:=by
 refine World.ownsRow.kept h (Z8 hb hB none) ?_
 cases e:v.ownBlock with
 |none=>exact Or.inl rfl
 |some k=>exact Or.inr (by simp)
theorem Qu.form {w:World}{base:Nat}{v:Value}{l:List Ob}(h:Qu w base v l):∃a cap,v=.slice a l.length cap∧(l.length≤cap∧cap≤maxLen)∧((∀i (hi:i<l.length),Qk w l[i].ra l[i].r)→ZQ w a l):=by
 rcases h.2 with⟨h1,h2⟩|⟨g,cap,cur,h1,hg,hh,hn,hc,hs,htake⟩
 ·refine⟨none,0,by rw[h1,h2],⟨by omega,Qhx _⟩,fun hr=>⟨fun hm=>by omega,hr⟩⟩
 ·refine⟨some ⟨g,0,none⟩,cap,h1,⟨hn,hc⟩,fun hr=>⟨fun hm=>⟨g,0,rfl,lt_of_block hh,fun i hi=>?_⟩,hr⟩⟩
  have h':w.ownsRow base 37 3 (.slice (some ⟨g,0,none⟩) l.length cap) l.length (l.flatMap Ob.cs):=by rw[←h1];exact h
  have g0:=Jy Ob.cs 3 (fun _=>rfl) l i 0 hi (by omega)
  have g1:=Jy Ob.cs 3 (fun _=>rfl) l i 1 hi (by omega)
  have g2:=Jy Ob.cs 3 (fun _=>rfl) l i 2 hi (by omega)
  have el:l.getD i Ob.zero=l[i]:=by simp[List.getD,Qhw hi]
  refine⟨?_,?_,?_⟩
  ·rw[Qhz,UU h' _ (by omega)];simpa[Ob.cs,el,Qhw hi]using g0
  ·rw[Qhz,UU h' _ (by omega)];simpa[Ob.cs,el,Qhw hi]using g1
  ·rw[Qhz,UU h' _ (by omega)];simpa[Ob.cs,el,Qhw hi]using g2
def Ob.rv (o:Ob):Value:=.slice o.ra o.r.length o.rcap
structure QJ (w:World) (base:Nat) (l:List Ob):Prop where
 own:∀i (hi:i<l.length),Qa w base l[i].rv l[i].r
 inc:∀i j (hi:i<l.length) (hj:j<l.length),i<j→∀a b,l[i].rv.ownBlock=some a→l[j].rv.ownBlock=some b→a<b
theorem QJ.nil (w:World)(base:Nat):QJ w base []:=⟨fun i hi=>by simp at hi,fun i j hi=>by simp at hi⟩
theorem QJ.below {w w':World}{base B:Nat}{l:List Ob}(h:QJ w base l)(hb:Below B w w')(hB:w.heap.size≤B):QJ w' base l:=⟨fun i hi=>(h.own i hi).below hb hB,h.inc⟩
theorem QJ.grown {w w':World}{base base' e size n:Nat}{l:List Ob}{v:Value}{xs:List Value}(h:QJ w base l)(hv:w.ownsRow base' e size v n xs)(he:e≠3)(hg:w.grownBy w' v.ownBlock):QJ w' base l:=
 ⟨fun i hi=>(h.own i hi).kept hg (Ua (h.own i hi) hv (fun q=>he q.symm)),h.inc⟩
theorem QJ.set {w:World}{base B t:Nat}{l:List Ob}{cs:List Value}(h:QJ w base l)(hb:Blk w B cs t)(ht:t≠3)(j:Nat)(u:Value):QJ (w.setCell ⟨B,j,none⟩ u) base l:=
 ⟨fun i hi=>ownsRow_setCell_other (h.own i hi) (Qr (h.own i hi) hb ht) u,h.inc⟩
theorem QJ.snoc {w:World}{base:Nat}{l:List Ob}(h:QJ w base l)(o:Ob)(ho:Qa w base o.rv o.r)(hm:∀i (hi:i<l.length) a b,l[i].rv.ownBlock=some a→o.rv.ownBlock=some b→a<b):QJ w base (l++ [o]):=by
 refine⟨fun i hi=>?_,fun i j hi hj hij a b ha hb=>?_⟩
 ·by_cases hl:i<l.length
  ·simpa[QhA hl]using h.own i hl
  ·have e:i=l.length:=by simp at hi;omega
   subst e
   simpa using ho
 ·by_cases hl:j<l.length
  ·have hli:i<l.length:=by omega
   rw[QhA hli]at ha
   rw[QhA hl]at hb
   exact h.inc i j hli hl hij a b ha hb
  ·have e:j=l.length:=by simp at hj;omega
   subst e
   rw[QhA hij]at ha
   simp at hb
   exact hm i hij a b ha hb
theorem QJ.lt {w:World}{base:Nat}{l:List Ob}(h:QJ w base l)(i:Nat)(hi:i<l.length)(a:Nat)(ha:l[i].rv.ownBlock=some a):base≤a∧a<w.heap.size:=(h.own i hi).lt a ha
theorem QJ.seg {w:World}{base:Nat}{l:List Ob}(h:QJ w base l)(i:Nat)(hi:i<l.length):Qk w l[i].ra l[i].r:=by
 obtain⟨a,cap,e,hs,_⟩:=(h.own i hi).form
 simp only[Ob.rv,Value.slice.injEq]at e
 rw[e.1];exact hs
theorem UA {w:World}(o:Ob)(t:TypeId):∀j u,o.cs[j]? =some u→(w.alloc (Qhr #[.int .i64 o.k,.string o.t,.slice o.ra o.r.length o.rcap] t)).cell? ((⟨w.heap.size,0,none⟩:Addr).add j)=some u:=
 World.news_of_block (cs:=#[.int .i64 o.k,.string o.t,.slice o.ra o.r.length o.rcap]) (heap_alloc_new w _)
theorem Ob.one (o:Ob):∀u∈o.cs,u.oneCell'=true:=fun u hu=>by
 simp[Ob.cs]at hu
 rcases hu with rfl|rfl|rfl<;>rfl
structure Zd (w:World) (B:Nat) (h:Hp):Prop where
 ob:Qu w B (.slice h.oa h.os.length h.ocap) h.os
 rs:QJ w B h.os
 ro:Qa w B (.slice h.ra h.rs.length h.rcap) h.rs
 rlt:∀i (hi:i<h.os.length) a b,h.os[i].rv.ownBlock=some a→(Qhu h.ra h.rs.length h.rcap).ownBlock=some b→a<b
 wa:Qe w B (.slice h.wa h.ws.length h.wcap) h.ws
 da:Qe w B (.slice h.da h.ds.length h.dcap) h.ds
 wlt:∀a b,(Qhu h.wa h.ws.length h.wcap).ownBlock=some a→(Qhu h.da h.ds.length h.dcap).ownBlock=some b→a<b
theorem Zd.isIn {w:World}{B:Nat}{h:Hp}(hh:Zd w B h):Qg w h:=by
 refine⟨?_,?_,?_,?_⟩
 ·obtain⟨a,cap,e,_,hs⟩:=hh.ob.form
  simp only[Value.slice.injEq]at e
  rw[e.1];exact hs (fun i hi=>hh.rs.seg i hi)
 ·obtain⟨a,cap,e,hs,_⟩:=hh.ro.form
  simp only[Value.slice.injEq]at e
  rw[e.1];exact hs
 ·obtain⟨a,cap,e,hs,_⟩:=hh.wa.form
  simp only[Value.slice.injEq]at e
  rw[e.1];exact hs
 ·obtain⟨a,cap,e,hs,_⟩:=hh.da.form
  simp only[Value.slice.injEq]at e
  rw[e.1];exact hs
theorem Zd.below {w w':World}{B C:Nat}{h:Hp}(hh:Zd w B h)(hb:Below C w w')(hC:w.heap.size≤C):Zd w' B h:=
 ⟨hh.ob.below hb hC,hh.rs.below hb hC,hh.ro.below hb hC,hh.rlt,hh.wa.below hb hC,hh.da.below hb hC,hh.wlt⟩
def Qh (t:Nat)(A C:World):Prop:=∀(k:Nat) (cs:Array Value) (e:Nat),A.heap[k]? =some (.cells cs e (0,0))→e≠t→C.heap[k]? =some (.cells cs e (0,0))
theorem Qh.refl (t:Nat)(A:World):Qh t A A:=fun _ _ _ h _=>h
theorem Qh.trans {t:Nat}{A C D:World}(h:Qh t A C)(h':Qh t C D):Qh t A D:=fun k cs e hk he=>h' k cs e (h k cs e hk he) he
theorem Qh.below {A C:World}{B:Nat}(t:Nat)(hb:Below B A C)(hB:A.heap.size≤B):Qh t A C:=fun k cs e hk _=>by
 rw[hb.block k (Qhv (lt_of_block hk) hB)];exact hk
theorem Qh.set {A:World}{B t:Nat}{cs:List Value}(hb:Blk A B cs t)(j:Nat)(u:Value):Qh t A (A.setCell ⟨B,j,none⟩ u):=fun k c e hk he=>by
 have hne:k≠B:=fun q=>by
  subst q
  unfold Blk at hb
  rw[hb]at hk
  simp at hk
  exact he hk.2.symm
 rw[Below.heap_setCell _ _ _ _ (by simpa using hne)];exact hk
theorem Qm {A C:World}{base e size n t:Nat}{v:Value}{xs:List Value}(h:A.ownsRow base e size v n xs)(hk:Qh t A C)(he:e≠t):C.ownsRow base e size v n xs:=by
 refine⟨h.1,?_⟩
 rcases h.2 with h1|⟨g,cap,cur,h1,hg,hh,r⟩
 ·exact Or.inl h1
 ·exact Or.inr ⟨g,cap,cur,h1,hg,hk g cur e hh he,r⟩
theorem QJ.keep {A C:World}{base:Nat}{l:List Ob}(h:QJ A base l)(hk:Qh 27 A C):QJ C base l:=⟨fun i hi=>Qm (h.own i hi) hk (by decide),h.inc⟩
theorem Zd.keep {A C:World}{B:Nat}{h:Hp}(hh:Zd A B h)(hk:Qh 27 A C):Zd C B h:=
 ⟨Qm hh.ob hk (by decide),hh.rs.keep hk,Qm hh.ro hk (by decide),hh.rlt,Qm hh.wa hk (by decide),Qm hh.da hk (by decide),hh.wlt⟩
theorem Qu.base {w:World}{B C:Nat}{v:Value}{l:List Ob}(h:Qu w B v l)(hC:C≤B):Qu w C v l:=by
 refine⟨h.1,?_⟩
 rcases h.2 with h1|⟨g,cap,cur,h1,hg,r⟩
 ·exact Or.inl h1
 ·exact Or.inr ⟨g,cap,cur,h1,Qhy hC hg,r⟩
theorem Zd.base {w:World}{B C:Nat}{h:Hp}(hh:Zd w B h)(hC:C≤B):Zd w C h:=
 ⟨hh.ob.base hC,⟨fun i hi=>(hh.rs.own i hi).base hC,hh.rs.inc⟩,hh.ro.base hC,hh.rlt,hh.wa.base hC,hh.da.base hC,hh.wlt⟩
theorem Q7 {w:World}{B:Nat}{c0 c1 c2 c3:Value}(hb:Blk w B [c0,c1,c2,c3] 27)(v0 v1 v2 v3:Value):
 Qh 27 w ((((w.setCell ⟨B,0,none⟩ v0).setCell ⟨B,1,none⟩ v1).setCell ⟨B,2,none⟩ v2).setCell ⟨B,3,none⟩ v3)∧Blk ((((w.setCell ⟨B,0,none⟩ v0).setCell ⟨B,1,none⟩ v1).setCell ⟨B,2,none⟩ v2).setCell ⟨B,3,none⟩ v3) B [v0,v1,v2,v3] 27:=by
 have h1:=hb.store 0 v0
 have h2:=h1.store 1 v1
 have h3:=h2.store 2 v2
 have h4:=h3.store 3 v3
 exact⟨(((Qh.set hb 0 v0).trans (Qh.set h1 1 v1)).trans (Qh.set h2 2 v2)).trans (Qh.set h3 3 v3),h4⟩
theorem Z2 {w W:World}{B C:Nat}(h:Below B w W)(hC:B≤C)(v0 v1 v2 v3:Value):Below B w ((((W.setCell ⟨C,0,none⟩ v0).setCell ⟨C,1,none⟩ v1).setCell ⟨C,2,none⟩ v2).setCell ⟨C,3,none⟩ v3):=
 (((h.setCell (p:=⟨C,0,none⟩) hC v0).setCell (p:=⟨C,1,none⟩) hC v1).setCell (p:=⟨C,2,none⟩) hC v2).setCell (p:=⟨C,3,none⟩) hC v3
def QU (X:List Int)(o:Ob):Int×ByteArray×List Int:=(o.k,o.t,o.r.map (wh X))
def Ob.wk (o:Ob)(k:Int):Ob:=⟨k,o.t,o.ra,o.rcap,o.r⟩
structure ChO (S:Nat→Prop) (w w':World):Prop where
 os:w'.os=w.os
 tape:w'.tape=w.tape
 output:w'.output=w.output
 size:w.heap.size≤w'.heap.size
 block:∀k,k<w.heap.size→¬S k→w'.heap[k]? =w.heap[k]?
theorem ChO.refl (S:Nat→Prop)(w:World):ChO S w w:=⟨rfl,rfl,rfl,Qhs _,fun _ _ _=>rfl⟩
theorem ChO.trans {S:Nat→Prop}{a b c:World}(h:ChO S a b)(k:ChO S b c):ChO S a c:=
 ⟨k.os.trans h.os,k.tape.trans h.tape,k.output.trans h.output,Qhy h.size k.size,fun i hi hr=>(k.block i (Qhv hi h.size) hr).trans (h.block i hi hr)⟩
theorem ChO.gb {S:Nat→Prop}{w w':World}{r:Option Nat}(h:w.grownBy w' r)(hr:∀k,r=some k→S k):ChO S w w':=
 ⟨h.os,h.tape,h.output,h.size,fun k hk hn=>h.block k hk (fun e=>hn (hr k e.symm))⟩
theorem ChO.mono {S T:Nat→Prop}{w w':World}(h:ChO S w w')(hs:∀k,S k→T k):ChO T w w':=⟨h.os,h.tape,h.output,h.size,fun k hk hn=>h.block k hk (fun e=>hn (hs k e))⟩
theorem ChO.below {S:Nat→Prop}{w w':World}{B:Nat}(h:ChO S w w')(hB:B≤w.heap.size)(hS:∀k,S k→B≤k):Below B w w':=
 ⟨h.os,h.tape,h.output,h.size,fun k hk=>h.block k (by omega) (fun e=>by have:=hS k e;omega)⟩
theorem ChO.row {S:Nat→Prop}{w w':World}{base e size n:Nat}{v:Value}{xs:List Value}(h:ChO S w w')(ho:w.ownsRow base e size v n xs)(hn:∀k,v.ownBlock=some k→¬S k):w'.ownsRow base e size v n xs:=by
 refine⟨ho.1,?_⟩
 rcases ho.2 with h1|⟨g,cap,cur,h1,hg,hh,r⟩
 ·exact Or.inl h1
 ·exact Or.inr ⟨g,cap,cur,h1,hg,by rw[h.block g (lt_of_block hh) (hn g (by rw[h1];rfl))];exact hh,r⟩
theorem ChO.blk {S:Nat→Prop}{w w':World}{B t:Nat}{cs:List Value}(h:ChO S w w')(hb:Blk w B cs t)(hn:¬S B):Blk w' B cs t:=by
 unfold Blk at *
 rw[h.block B (lt_of_block hb) hn];exact hb
theorem QJ.mark {w w':World}{base:Nat}{l:List Ob}(h:QJ w base l)(j:Nat)(hj:j<l.length)(o:Ob)(hv:o.rv=l[j].rv)(ho:Qa w' base o.rv o.r)(hg:w.grownBy w' l[j].rv.ownBlock):QJ w' base (l.set j o):=by
 refine⟨fun i hi=>?_,fun i i' hi hi' hlt a b ha hb=>?_⟩
 ·rw[List.length_set]at hi
  rw[List.getElem_set]
  split
  ·exact ho
  ·rename_i hne
   refine(h.own i hi).kept hg ?_
   cases e:l[i].rv.ownBlock with
   |none=>exact Or.inl rfl
   |some a=>
    refine Or.inr fun e2=>?_
    rcases Nat.lt_or_gt_of_ne hne with hl|hl
    ·exact absurd (h.inc j i hj hi hl a a e2.symm e) (Nat.lt_irrefl _)
    ·exact absurd (h.inc i j hi hj hl a a e e2.symm) (Nat.lt_irrefl _)
 ·rw[List.length_set]at hi hi'
  have e:∀i (hi:i<l.length) (h2:i<(l.set j o).length),(l.set j o)[i].rv=l[i].rv:=fun i hi h2=>by
   rw[List.getElem_set]
   split
   ·rename_i e;subst e;exact hv
   ·rfl
  rw[e i hi]at ha
  rw[e i' hi']at hb
  exact h.inc i i' hi hi' hlt a b ha hb
end
end Go.Proofs.YtcpnkpogebjieaaGreat
