/- The specification's own collecting: what is watched but for what was told. -/
import Derived.Test.YtcpnkpogebjieaaGreatS34Do
import Derived.Test.YtcpnkpogebjieaaGreatS28Lo
open List renaming setIfInBounds_toArray→QhR,set_cons_zero→QhS,set_cons_succ→QhT,take_succ_eq_append_getElem→Qh2,take_of_length_le→Qh3
open Nat renaming le_refl→QhU,lt_of_lt_of_le→QhY,le_trans→QhZ,zero_le→Qh0
open Go.Value renaming slice→QhV,int→QhW,string→Qh1
open Go.Obj renaming cells→QhX
set_option maxHeartbeats 1600000
set_option maxRecDepth 100000
namespace Go.Proofs.YtcpnkpogebjieaaGreat
section
open Go.RowKit
def QW (ws told:List (Int×Int)):List (Int×Int):=ws.filter fun p=>!decide (p∈told)
theorem QhM (ws told:List (Int×Int))(k:Nat)(hk:k<ws.length):QW (ws.take (k+1)) told=if decide (ws[k]∈told)=true then QW (ws.take k) told else QW (ws.take k) told++ [ws[k]]:=by
 unfold QW;rw[Qh2 hk,List.filter_append]
 cases h:decide (ws[k]∈told)<;>simp[h]
theorem QhL (ws told:List (Int×Int))(k:Nat):(QW (ws.take k) told).length≤k:=QhZ (List.length_filter_le _ _) (List.length_take_le _ _)
theorem Qfn (p:Int×Int)(l:List (Int×Int))(j:Nat)(hj:j<l.length):decide (p∈l.take (j+1))=(decide (p∈l.take j)||decide (l[j]=p)):=by
 rw[Qh2 hj,Bool.eq_iff_iff];simp only[decide_eq_true_eq,Bool.or_eq_true,List.mem_append,List.mem_singleton];exact or_congr_right ⟨fun e=>e.symm,fun e=>e.symm⟩
theorem QeR (wa:Option Addr)(wcap:Nat)(ws:List (Int×Int))(ta:Option Addr)(tcap:Nat)(ts:List (Int×Int))(w:World)(hw:Qz w wa ws)(hwl:ws.length≤1048576)(ht:Qz w ta ts)(htl:ts.length≤1048576):
 Calls Cut.prog 84 #[.slice wa ws.length wcap,.slice ta ts.length tcap] w fun e w'=>∃v',e=.returned v'∧Qe w' w.heap.size v' (QW ws ts)∧Below w.heap.size w w':=by
 obtain⟨i0,hi,hz0,hz1,hz2⟩:=info_parts Jr;have hB0:Below w.heap.size w (w.alloc (QhX #[] 40)):=QC _ _;have hO0:=World.ownsRow_lit (e:=40) (size:=2) (base:=w.heap.size) w #[] 0 (QhU _) (Qh0 _) rfl;go_enter (Cut.func_of Tryz.func84 rfl),Tryz.ntmps84;go_wp2;go_loopw [5,6,7,8] (fun v i _ _ wr=>∃k:Nat,k≤ws.length∧i=.int .i64 k∧Qe wr w.heap.size v (QW (ws.take k) ts)∧Below w.heap.size w wr) (fun _ i _ _ _=>ws.length-(intOf i).toNat)
 case atStart=>exact⟨0,Qh0 _,rfl,hO0,hB0⟩
 case round=>
  obtain⟨k,hk,rfl,hown,hb⟩:=hrel;clear hO0 hB0;by_cases hlt:k<ws.length
  ·obtain⟨b,off,rfl,hbw,e1,e2⟩:=hw.get hlt;have d1:=(hb.cell (p:=⟨b,off+k*2,none⟩) hbw).trans e1;have d2:=(hb.cell (p:=⟨b,off+k*2+1,none⟩) hbw).trans e2;have HF:=QhM ws ts k hlt;have hfl:=QhL ws ts k;have hi1:(k:Int)<(ws.length:Int):=by omega
   generalize hP:ws[k]=p at *;clear hP e1 e2;obtain⟨g1,g2⟩:=p;dsimp only at *;have HFF:Hid (QW (ws.take (k+1)) ts=if decide ((g1,g2)∈ts)=true then QW (ws.take k) ts else QW (ws.take k) ts++ [(g1,g2)]):=HF;clear HF;generalize hwo:wr=wo at *;clear hwo;go_wp2;go_loopw [7,8] (fun f i wq=>∃j:Nat,j≤ts.length∧i=.int .i64 j∧f=.bool (decide ((g1,g2)∈ts.take j))∧wq.heap=wo.heap∧Below wo.heap.size wo wq) (fun _ i _=>ts.length-(intOf i).toNat)
   case atStart=>exact⟨0,Qh0 _,rfl,by simp,rfl,Below.refl _ _⟩
   case round=>
    obtain⟨j,hj,rfl,rfl,hheap,hbq⟩:=hrel;by_cases hjt:j<ts.length
    ·obtain⟨tb,toff,rfl,htb,t1',t2'⟩:=ht.get hjt;have hbw2:=hb.trans (hbq.mono hb.size);have f1:=(hbw2.cell (p:=⟨tb,toff+j*2,none⟩) htb).trans t1';have f2:=(hbw2.cell (p:=⟨tb,toff+j*2+1,none⟩) htb).trans t2';have f3:=(hbq.cell (p:=⟨b,off+k*2,none⟩) (QhY hbw hb.size)).trans d1;have f4:=(hbq.cell (p:=⟨b,off+k*2+1,none⟩) (QhY hbw hb.size)).trans d2;have HM:Hid (decide ((g1,g2)∈ts.take (j+1))=(decide ((g1,g2)∈ts.take j)||decide (ts[j]=(g1,g2)))):=Qfn _ _ _ hjt;have hj1:(j:Int)<(ts.length:Int):=by omega
     have hdq:=hbq.drew;have hhd:wr.drew.heap=wo.heap:=hheap;generalize hTT:ts[j]=tt at *;clear hTT t1' t2';obtain⟨t1,t2⟩:=tt;dsimp only at *;have hS:(fun(W':World)=>(W'.cell? ⟨tb,toff+j*2,none⟩=some (.int .i64 t1)∧W'.cell? ⟨tb,toff+j*2+1,none⟩=some (.int .i64 t2))∧W'.cell? ⟨b,off+k*2,none⟩=some (.int .i64 g1)∧W'.cell? ⟨b,off+k*2+1,none⟩=some (.int .i64 g2)) wr.drew:=⟨⟨f1,f2⟩,f3,f4⟩
     cases hfd:decide ((g1,g2)∈ts.take j)with
     |true=>
      have HN:Hid (Value.bool true=.bool (decide ((g1,g2)∈ts.take (j+1)))):=by
       show _=_;rw[HM.out,hfd];rfl
      clear hfd;go_wp2_with fail;refine wp_region_held_drew (S:=(fun(W':World)=>(W'.cell? ⟨tb,toff+j*2,none⟩=some (.int .i64 t1)∧W'.cell? ⟨tb,toff+j*2+1,none⟩=some (.int .i64 t2))∧W'.cell? ⟨b,off+k*2,none⟩=some (.int .i64 g1)∧W'.cell? ⟨b,off+k*2+1,none⟩=some (.int .i64 g2))) (by kernel_rfl) hS (fun hHeld=>?_);clear hHeld;refine tk 0 22 rfl rfl hS ?_;simp only[QhR,QhS,QhT];refine tk 1 23 rfl rfl hS ?_;simp only[QhR,QhS,QhT];refine tku 2 24 rfl rfl hS ?_;simp only[QhR,QhS,QhT];refine tku 3 25 rfl rfl hS ?_;simp only[QhR,QhS,QhT];refine tku 4 26 rfl rfl hS ?_;simp only[QhR,QhS,QhT];refine tku 5 27 rfl rfl hS ?_;simp only[QhR,QhS,QhT];refine tku 6 28 rfl rfl hS ?_;simp only[QhR,QhS,QhT];refine tku 7 29 rfl rfl hS ?_;simp only[QhR,QhS,QhT];refine tku 8 30 rfl rfl hS ?_;simp only[QhR,QhS,QhT];refine tku 9 31 rfl rfl hS ?_;simp only[QhR,QhS,QhT];refine tku 10 32 rfl rfl hS ?_;simp only[QhR,QhS,QhT];refine tk 11 33 rfl rfl hS ?_;simp only[QhR,QhS,QhT];refine tk 12 7 rfl rfl hS ?_;simp only[QhR,QhS,QhT];refine wpAnyH_done (by kernel_rfl) ?_ _;go_wp2;go_roundw
      case rel=>exact⟨j+1,by omega,by go_num,HN.out,hhd,hdq⟩
      case measure=>simp[intOf];omega
     |false=>
      by_cases hE:(t1,t2)=(g1,g2)
      ·have HN:Hid (Value.bool true=.bool (decide ((g1,g2)∈ts.take (j+1)))):=by
        show _=_;rw[HM.out,hfd];simp[hE]
       simp only[Prod.mk.injEq]at hE;obtain⟨hE1,hE2⟩:=hE;clear hfd;go_wp2_with fail;refine wp_region_held_drew (S:=(fun(W':World)=>(W'.cell? ⟨tb,toff+j*2,none⟩=some (.int .i64 t1)∧W'.cell? ⟨tb,toff+j*2+1,none⟩=some (.int .i64 t2))∧W'.cell? ⟨b,off+k*2,none⟩=some (.int .i64 g1)∧W'.cell? ⟨b,off+k*2+1,none⟩=some (.int .i64 g2))) (by kernel_rfl) hS (fun hHeld=>?_);clear hHeld;refine tk 0 22 rfl rfl hS ?_;simp only[QhR,QhS,QhT];refine tk 1 23 rfl rfl hS ?_;simp only[QhR,QhS,QhT];refine tk 2 24 rfl rfl hS ?_;simp only[QhR,QhS,QhT];refine tk 3 25 rfl rfl hS ?_;simp only[QhR,QhS,QhT];refine tk 4 26 rfl rfl hS ?_;simp only[QhR,QhS,QhT];refine tk 5 27 rfl rfl hS ?_;simp only[QhR,QhS,QhT];refine tk 6 28 rfl rfl hS ?_;simp only[QhR,QhS,QhT];refine tk 7 29 rfl rfl hS ?_;simp only[QhR,QhS,QhT];refine tk 8 30 rfl rfl hS ?_;simp only[QhR,QhS,QhT];refine tk 9 31 rfl rfl hS ?_;simp only[QhR,QhS,QhT];refine tk 10 32 rfl rfl hS ?_;simp only[QhR,QhS,QhT];refine tk 11 33 rfl rfl hS ?_;simp only[QhR,QhS,QhT];refine tk 12 7 rfl rfl hS ?_;simp only[QhR,QhS,QhT];refine wpAnyH_done (by kernel_rfl) ?_ _;go_wp2;go_roundw
       case rel=>exact⟨j+1,by omega,by go_num,HN.out,hhd,hdq⟩
       case measure=>simp[intOf];omega
      ·have HN:Hid (Value.bool false=.bool (decide ((g1,g2)∈ts.take (j+1)))):=by
        show _=_;rw[HM.out,hfd];simp[hE]
       have hpp:¬(t1=g1∧t2=g2):=fun q=>hE (by rw[q.1,q.2]);clear hfd hE;by_cases h1:t1=g1
       ·have h2:¬t2=g2:=fun q=>hpp ⟨h1,q⟩;clear hpp;go_wp2_with fail;refine wp_region_held_drew (S:=(fun(W':World)=>(W'.cell? ⟨tb,toff+j*2,none⟩=some (.int .i64 t1)∧W'.cell? ⟨tb,toff+j*2+1,none⟩=some (.int .i64 t2))∧W'.cell? ⟨b,off+k*2,none⟩=some (.int .i64 g1)∧W'.cell? ⟨b,off+k*2+1,none⟩=some (.int .i64 g2))) (by kernel_rfl) hS (fun hHeld=>?_);clear hHeld;refine tk 0 22 rfl rfl hS ?_;simp only[QhR,QhS,QhT];refine tk 1 23 rfl rfl hS ?_;simp only[QhR,QhS,QhT];refine tk 2 24 rfl rfl hS ?_;simp only[QhR,QhS,QhT];refine tk 3 25 rfl rfl hS ?_;simp only[QhR,QhS,QhT];refine tk 4 26 rfl rfl hS ?_;simp only[QhR,QhS,QhT];refine tk 5 27 rfl rfl hS ?_;simp only[QhR,QhS,QhT];refine tk 6 28 rfl rfl hS ?_;simp only[QhR,QhS,QhT];refine tk 7 29 rfl rfl hS ?_;simp only[QhR,QhS,QhT];refine tk 8 30 rfl rfl hS ?_;simp only[QhR,QhS,QhT];refine tk 9 31 rfl rfl hS ?_;simp only[QhR,QhS,QhT];refine tk 10 32 rfl rfl hS ?_;simp only[QhR,QhS,QhT];refine tk 11 33 rfl rfl hS ?_;simp only[QhR,QhS,QhT];refine tk 12 7 rfl rfl hS ?_;simp only[QhR,QhS,QhT];refine wpAnyH_done (by kernel_rfl) ?_ _;go_wp2;go_roundw
        case rel=>exact⟨j+1,by omega,by go_num,HN.out,hhd,hdq⟩
        case measure=>simp[intOf];omega
       ·clear hpp;go_wp2_with fail;refine wp_region_held_drew (S:=(fun(W':World)=>(W'.cell? ⟨tb,toff+j*2,none⟩=some (.int .i64 t1)∧W'.cell? ⟨tb,toff+j*2+1,none⟩=some (.int .i64 t2))∧W'.cell? ⟨b,off+k*2,none⟩=some (.int .i64 g1)∧W'.cell? ⟨b,off+k*2+1,none⟩=some (.int .i64 g2))) (by kernel_rfl) hS (fun hHeld=>?_);clear hHeld;refine tk 0 22 rfl rfl hS ?_;simp only[QhR,QhS,QhT];refine tk 1 23 rfl rfl hS ?_;simp only[QhR,QhS,QhT];refine tk 2 24 rfl rfl hS ?_;simp only[QhR,QhS,QhT];refine tk 3 25 rfl rfl hS ?_;simp only[QhR,QhS,QhT];refine tk 4 26 rfl rfl hS ?_;simp only[QhR,QhS,QhT];refine tk 5 27 rfl rfl hS ?_;simp only[QhR,QhS,QhT];refine tk 6 28 rfl rfl hS ?_;simp only[QhR,QhS,QhT];refine tk 7 29 rfl rfl hS ?_;simp only[QhR,QhS,QhT];refine tk 8 30 rfl rfl hS ?_;simp only[QhR,QhS,QhT];refine tk 9 31 rfl rfl hS ?_;simp only[QhR,QhS,QhT];refine tk 10 32 rfl rfl hS ?_;simp only[QhR,QhS,QhT];refine tk 11 33 rfl rfl hS ?_;simp only[QhR,QhS,QhT];refine tk 12 7 rfl rfl hS ?_;simp only[QhR,QhS,QhT];refine wpAnyH_done (by kernel_rfl) ?_ _;go_wp2;go_roundw
        case rel=>exact⟨j+1,by omega,by go_num,HN.out,hhd,hdq⟩
        case measure=>simp[intOf];omega
    ·have ej:ts.take j=ts:=Qh3 (by omega);rw[ej];have hown2:=Qe.below hown hbq (QhU _);have hb2:=hb.trans (hbq.mono hb.size);have f3:=(hbq.cell (p:=⟨b,off+k*2,none⟩) (QhY hbw hb.size)).trans d1;have f4:=(hbq.cell (p:=⟨b,off+k*2+1,none⟩) (QhY hbw hb.size)).trans d2;obtain⟨va,vcap,rfl,-⟩:=hown.form;clear ej hown hb hbq d1 d2 hheap
     cases hfd:decide ((g1,g2)∈ts)with
     |true=>
      have HN:Hid (Qe wr w.heap.size (.slice va (QW (ws.take k) ts).length vcap) (QW (ws.take (k+1)) ts)):=by
       show Qe _ _ _ _;rw[HFF.out,hfd,if_pos rfl];exact hown2
      clear hfd;go_wp2;go_roundw
      case rel=>exact⟨k+1,by omega,by go_num,HN.out,hb2⟩
      case measure=>simp[intOf];omega
     |false=>
      have HF':Hid (QW (ws.take (k+1)) ts=QW (ws.take k) ts++ [(g1,g2)]):=by
       show _=_;rw[HFF.out,hfd];rfl
      clear hfd;generalize hL:QW (ws.take k) ts=L at *;have HL:Hid (QW (ws.take k) ts=L):=hL;clear hL;have hA2:Below wr.heap.size wr (wr.alloc (QhX #[QhW .i64 g1,QhW .i64 g2] 40)):=QC _ _;have hvA:(wr.alloc (QhX #[QhW .i64 g1,QhW .i64 g2] 40)).ownsRow w.heap.size 40 2 (.slice va L.length vcap) L.length (L.flatMap wc):=hown2.below hA2 (QhU _);have hbA2:=hb2.trans (hA2.mono hb2.size)
      have HEND:Hid (∀v' w3,w3.ownsRow w.heap.size 40 2 v' (L.length+1) (L.flatMap wc++ [.int .i64 g1,.int .i64 g2])→(wr.alloc (QhX #[QhW .i64 g1,QhW .i64 g2] 40)).grownBy w3 (QhV va L.length vcap).ownBlock→Qe w3 w.heap.size v' (QW (ws.take (k+1)) ts)∧Below w.heap.size w w3):=fun v' w3 ho hg=>by
       refine⟨?_,hbA2.trans (QJ hg hbA2.size (fun q e=>(hvA.lt q e).1))⟩;rw[HF'.out];unfold Qe;simpa[wc]using ho
      have hl1:L.length+1≤maxLen:=by unfold maxLen;omega
      have hl2:(L.length+1)*16≤140737488355328:=by omega
      have hbs:=hbA2.size;clear hA2 hbA2 hown2;go_wp2_with (at_builtin;refine wpList_append_own_at _ rfl _ _ 25 rfl w.heap.size 40 i0 _ 2 16 ((Cut.under_eq 25).trans Tryz.underlying25) hi hz0 hz1 hz2 rfl (by decide) _ _ _ rfl hvA ⟨wr.heap.size,0,none⟩ 1 1 [.int .i64 g1,.int .i64 g2] rfl rfl (Yc (g1,g2) _) (JU [(g1,g2)]) hl1 hl2 hbs ?_);intro v' w3 hown3 hgr _ _;obtain⟨ho3,hb3⟩:=HEND.out v' w3 hown3 hgr;clear hown3 hgr HEND hvA;go_wp2;go_roundw
      case rel=>exact⟨k+1,by omega,by go_num,ho3,hb3⟩
      case measure=>simp[intOf];omega
  ·have ek:ws.take k=ws:=Qh3 (by omega);rw[ek]at hown;clear ek;go_wp2;go_ret;exact⟨_,rfl,hown,hb⟩
def Qx (ws:List (Int×Int))(x:List Int):List (Int×Int):=(ws.filter fun p=>decide (0≤pos x p.1)&&decide (0≤pos x p.2)).map fun p=>(pos x p.1,pos x p.2)
theorem Qfu (ws:List (Int×Int))(x:List Int)(k:Nat)(hk:k<ws.length):Qx (ws.take (k+1)) x=if decide (0≤pos x ws[k].1)=true∧decide (0≤pos x ws[k].2)=true then Qx (ws.take k) x++ [(pos x ws[k].1,pos x ws[k].2)]else Qx (ws.take k) x:=by
 unfold Qx;rw[Qh2 hk,List.filter_append];by_cases h:decide (0≤pos x ws[k].1)=true∧decide (0≤pos x ws[k].2)=true
 ·rw[if_pos h];simp only[List.filter_cons,h.1,h.2,Bool.and_self,if_true,List.filter_nil,List.map_append,List.map_cons,List.map_nil]
 ·rw[if_neg h]
  have:(decide (0≤pos x ws[k].1)&&decide (0≤pos x ws[k].2))=false:=by
   rw[Bool.eq_false_iff];intro e;rw[Bool.and_eq_true]at e;exact h e
  simp[this]
theorem Qft (ws:List (Int×Int))(x:List Int)(k:Nat):(Qx (ws.take k) x).length≤k:=by
 unfold Qx;rw[List.length_map];exact QhZ (List.length_filter_le _ _) (List.length_take_le _ _)
theorem Qaf (wa:Option Addr)(wcap:Nat)(ws:List (Int×Int))(xa:Option Addr)(xcap:Nat)(x:List Int)(w:World)(hw:Qz w wa ws)(hwl:ws.length≤1048576)(hx:Qi w xa x)(hxl:x.length≤maxLen):
 Calls Cut.prog 39 #[.slice wa ws.length wcap,.slice xa x.length xcap] w fun e w'=>∃v',e=.returned v'∧Qe w' w.heap.size v' (Qx ws x)∧Below w.heap.size w w':=by
 obtain⟨i0,hi,hz0,hz1,hz2⟩:=info_parts Jr;go_enter (Cut.func_of Tryz.func39 rfl),Tryz.ntmps39;go_wp2;have hO0:=World.ownsRow_lit (e:=40) (size:=2) (base:=w.heap.size) w #[] 0 (by simp) (Qh0 _) rfl;have hB0:Below w.heap.size w (w.alloc (QhX #[] 40)):=(Below.refl _ _).alloc (QhU _) _;go_loopw [5,6] (fun v i wr=>∃k:Nat,k≤ws.length∧i=.int .i64 k∧Qe wr w.heap.size v (Qx (ws.take k) x)∧Below w.heap.size w wr) (fun _ i _=>ws.length-(intOf i).toNat)
 case atStart=>exact⟨0,Qh0 _,rfl,hO0,hB0⟩
 case round=>
  obtain⟨k,hk,rfl,hown,hb⟩:=hrel;clear hO0 hB0;by_cases hlt:k<ws.length
  ·obtain⟨b,off,rfl,hbw,e1,e2⟩:=hw.get hlt;have d1:=(hb.cell (p:=⟨b,off+k*2,none⟩) hbw).trans e1;have d2:=(hb.cell (p:=⟨b,off+k*2+1,none⟩) hbw).trans e2;have sx:=hx.below hb (QhU _);have sxd:Qi wr.drew xa x:=hx.below hb.drew (QhU _);have HF:=Qfu ws x k hlt;have hfl:=Qft ws x k;have hi1:(k:Int)<(ws.length:Int):=by omega
   clear e1 e2;generalize ws[k].1=g1 at *;generalize ws[k].2=g2 at *;go_wp2_with fail;refine(JZ xa _ xcap x g1 _ rfl hxl sx).mono ?_;rintro e w1 ⟨rfl,rfl⟩;by_cases hm1:decide (0≤pos x g1)=true
   ·go_wp2_with fail;refine(JZ xa _ xcap x g2 _ rfl hxl sx).mono ?_;rintro e w1 ⟨rfl,rfl⟩;by_cases hm2:decide (0≤pos x g2)=true
    ·rw[if_pos ⟨hm1,hm2⟩]at HF;have HF':Hid (Qx (ws.take (k+1)) x=Qx (ws.take k) x++ [(pos x g1,pos x g2)]):=HF;clear HF;obtain⟨va,vcap,rfl,-⟩:=hown.form;have hbs:=hb.size;have hrow:=fun k' h'=>(hown.lt k' h').1;have hne:some b≠(QhV va (Qx (ws.take k) x).length vcap).ownBlock:=fun e=>by have:=hrow b e.symm;omega
     generalize hL:Qx (ws.take k) x=L at *;have HL:Hid (Qx (ws.take k) x=L):=hL;clear hL;have hA:Below w1.heap.size w1 (w1.drew.alloc (QhX #[.int .i64 (pos x g1),.int .i64 (pos x g2)] 40)):=(Below.refl _ _).drew.alloc (QhU _) _;have hvA:(w1.drew.alloc (QhX #[.int .i64 (pos x g1),.int .i64 (pos x g2)] 40)).ownsRow w.heap.size 40 2 (.slice va L.length vcap) L.length (L.flatMap wc):=hown.below hA (QhU _);have hnw:=Yc (w:=w1.drew) (pos x g1,pos x g2) 40
     have hone:∀u∈wc (pos x g1,pos x g2),u.oneCell'=true:=fun u hu=>by
      simp[wc]at hu;rcases hu with rfl|rfl<;>rfl
     have hbs2:w.heap.size≤(w1.drew.alloc (QhX #[.int .i64 (pos x g1),.int .i64 (pos x g2)] 40)).heap.size:=QhZ hbs hA.size
     have HS:Hid (∀w2,(w1.drew.alloc (QhX #[.int .i64 (pos x g1),.int .i64 (pos x g2)] 40)).grownBy w2 (QhV va L.length vcap).ownBlock→(w2.cell? ⟨b,off+k*2,none⟩=some (.int .i64 g1)∧w2.cell? ⟨b,off+k*2+1,none⟩=some (.int .i64 g2))∧Below w.heap.size w w2):=fun w2 hg=>by
      have hb1:b<w1.heap.size:=by omega
      refine⟨⟨(hg.cell_far ⟨b,off+k*2,none⟩ (QhY hb1 hA.size) hne).trans ((hA.cell (p:=⟨b,off+k*2,none⟩) hb1).trans d1),(hg.cell_far ⟨b,off+k*2+1,none⟩ (QhY hb1 hA.size) hne).trans ((hA.cell (p:=⟨b,off+k*2+1,none⟩) hb1).trans d2)⟩,?_⟩;exact(hb.trans (hA.mono hb.size)).trans (QJ hg hbs2 hrow)
     have hl1:L.length+1≤maxLen:=by unfold maxLen;omega
     have hl2:(L.length+1)*16≤140737488355328:=by omega
     clear hA hne hrow;go_wp2_with fail;go_region_held3 (fun w'=>w'.cell? ⟨b,off+k*2,none⟩=some (.int .i64 g1)∧w'.cell? ⟨b,off+k*2+1,none⟩=some (.int .i64 g2)) (go_keep)
      (first
        |(go_at_call_of 36 (QhW .i64 g1);refine(JZ xa _ xcap x g1 _ rfl hxl sxd).mono ?_;rintro e w1 ⟨rfl,rfl⟩)
        |(go_at_call_of 36 (QhW .i64 g2);refine(JZ xa _ xcap x g2 _ rfl hxl sxd).mono ?_;rintro e w1 ⟨rfl,rfl⟩)
        |(refine step_append_lies _ rfl _ _ 25 rfl w.heap.size 40 i0 _ 2 16 ((Cut.under_eq 25).trans Tryz.underlying25) hi hz0 hz1 hz2 rfl (by decide) _ _ _ rfl hvA ⟨w1.heap.size,0,none⟩ 1 1 (wc (pos x g1,pos x g2)) rfl rfl hnw hone (by decide) hl1 hl2 hbs2 _ rfl ?_;intro g cap w2 hown2 hgrow hat hlt2;obtain⟨⟨hS1,hS2⟩,hb2⟩:=HS.out w2 hgrow))
     all_goals
      have hown3:Hid (Qe w2 w.heap.size (.slice (some ⟨g,0,none⟩) (L.length+1) cap) (Qx (ws.take (k+1)) x)):=by
       show Qe _ _ _ _;rw[HF'.out];unfold Qe;simpa using hown2
      clear hown2 hgrow hat hvA hnw hone HS;go_wp2;go_roundw
      case rel=>exact⟨k+1,by omega,by go_num,hown3.out,hb2⟩
      case measure=>simp[intOf];omega
    ·rw[if_neg (fun q=>hm2 q.2)]at HF;have hm2':decide (0≤pos x g2)=false:=by simpa using hm2
     have HF':Hid (Qe w1 w.heap.size u5 (Qx (ws.take (k+1)) x)):=by
      show Qe _ _ _ _;rw[HF];exact hown
     clear HF hm2;go_wp2;go_roundw
     case rel=>exact⟨k+1,by omega,by go_num,HF'.out,hb⟩
     case measure=>simp[intOf];omega
   ·rw[if_neg (fun q=>hm1 q.1)]at HF;have hm1':decide (0≤pos x g1)=false:=by simpa using hm1
    have HF':Hid (Qe w1 w.heap.size u5 (Qx (ws.take (k+1)) x)):=by
     show Qe _ _ _ _;rw[HF];exact hown
    clear HF hm1;go_wp2;go_roundw
    case rel=>exact⟨k+1,by omega,by go_num,HF'.out,hb⟩
    case measure=>simp[intOf];omega
  ·have hk2:k=ws.length:=by omega
   subst hk2;rw[List.take_length]at hown;go_wp2;go_ret;exact⟨_,rfl,hown,hb⟩
theorem U6 {ws:List (Int×Int)}{X:List Int}{p:Int×Int}:p∈Ql ws X↔p∈ws∧(decide (0≤pos X p.1)&&decide (pos X p.2<0))=true:=by
 unfold Ql;rw[List.mem_filter]
theorem Qd9 (f:Int×Int→Bool)(l:List (Int×Int)):(l.filter fun p=>!f p).length+(l.filter f).length=l.length:=by
 induction l with
 |nil=>rfl
 |cons a l ih=>
  simp only[List.filter_cons]
  cases f a<;>simp<;>omega
theorem Kb (ws:List (Int×Int))(X:List Int):(QW ws (Ql ws X)).length+(Ql ws X).length=ws.length:=by
 have h1:QW ws (Ql ws X)=ws.filter fun p=>!(decide (0≤pos X p.1)&&decide (pos X p.2<0)):=by
  unfold QW;refine List.filter_congr fun p hp=>?_;congr 1;rw[Bool.eq_iff_iff,decide_eq_true_eq,U6];exact⟨fun h=>h.2,fun h=>⟨hp,h⟩⟩
 rw[h1];exact Qd9 (fun p:Int×Int=>decide (0≤pos X p.1)&&decide (pos X p.2<0)) ws
theorem OkC.tell {h:Hp}(c:OkC h){ws ds:List (Int×Int)}(h1:∀p∈ws,p∈h.ws)(h2:∀p∈ds,p∈h.ws∨p∈h.ds)(h3:ws.length+ds.length≤h.ws.length+h.ds.length)(wa:Option Addr)(wcap:Nat)(da:Option Addr)(dcap:Nat):OkC {h with wa:=wa,wcap:=wcap,ws:=ws,da:=da,dcap:=dcap,ds:=ds}:=
 ⟨c.n60,c.r8,by have:=c.w20;simp only;omega,c.ob,c.ro,fun p hp=>c.wo p (h1 p hp),fun p hp=>(h2 p hp).elim (c.wo p) (c.dd p)⟩
theorem Uj {a:Option Addr}{n cap m:Nat}{r:Option Nat}(h:∀k,(QhV a n cap).ownBlock=some k→m≤k)(hr:∀k,r=some k→k<m):AvI a n r:=fun _ x hx e=>by
 subst hx;have h1:=h x.block rfl;have h2:=hr x.block e.symm;omega
structure Z6 (w:World) (h:Hp) (W:World) (v:Value) (K:List Int) (wa:Option Addr) (wcap:Nat) (ws:List (Int×Int)) (da:Option Addr) (dcap:Nat) (ds:List (Int×Int)):Prop where
 bh:Blk W w.heap.size [QhV h.oa h.os.length h.ocap,QhV h.ra h.rs.length h.rcap,QhV wa ws.length wcap,QhV da ds.length dcap] 27
 br:Blk W (w.heap.size+1) [QhV none 0 0,QhV none 0 0,QhV none 0 0,QhV none 0 0] 27
 be:Below w.heap.size w W
 isIn:Qj W {h with wa:=wa,wcap:=wcap,ws:=ws,da:=da,dcap:=dcap,ds:=ds}
 ok:OkC {h with wa:=wa,wcap:=wcap,ws:=ws,da:=da,dcap:=dcap,ds:=ds}
 kn:Qa W w.heap.size v K
 pl:Qr h.os.length K
 av:QM {h with wa:=wa,wcap:=wcap,ws:=ws,da:=da,dcap:=dcap,ds:=ds} v.ownBlock
 ab:QM {h with wa:=wa,wcap:=wcap,ws:=ws,da:=da,dcap:=dcap,ds:=ds} (some w.heap.size)
 ar:QM {h with wa:=wa,wcap:=wcap,ws:=ws,da:=da,dcap:=dcap,ds:=ds} (some (w.heap.size+1))
theorem Z6.step {w:World}{h:Hp}{W W':World}{v:Value}{K:List Int}{wa:Option Addr}{wcap:Nat}{ws:List (Int×Int)}{da:Option Addr}{dcap:Nat}{ds:List (Int×Int)}(t:Z6 w h W v K wa wcap ws da dcap ds)(hb:Below W.heap.size W W'):Z6 w h W' v K wa wcap ws da dcap ds:=
 ⟨t.bh.step hb,t.br.step hb,t.be.trans (hb.mono t.be.size),t.isIn.below hb (QhU _),t.ok,t.kn.below hb (QhU _),t.pl,t.av,t.ab,t.ar⟩
theorem Z6.grow {w:World}{h:Hp}{W W':World}{v v':Value}{K K':List Int}{wa:Option Addr}{wcap:Nat}{ws:List (Int×Int)}{da:Option Addr}{dcap:Nat}{ds:List (Int×Int)}(t:Z6 w h W v K wa wcap ws da dcap ds)(hg:W.grownBy W' v.ownBlock)(hk:Qa W' w.heap.size v' K')(hp:Qr h.os.length K')(hat:v'.ownBlock=v.ownBlock∨∃g,v'.ownBlock=some g∧W.heap.size≤g):Z6 w h W' v' K' wa wcap ws da dcap ds:=by
 refine⟨t.bh.grown hg (Qs t.kn t.bh (by decide)),t.br.grown hg (Qs t.kn t.br (by decide)),t.be.trans (QJ hg t.be.size (fun k e=>(t.kn.lt k e).1)),t.isIn.grown hg t.av,t.ok,hk,hp,?_,t.ab,t.ar⟩;rcases hat with e|⟨g,e,hg'⟩
 ·rw[e];exact t.av
 ·rw[e];exact t.isIn.av hg'
theorem Z6.fit {w:World}{h:Hp}{W:World}{v:Value}{K:List Int}{wa:Option Addr}{wcap:Nat}{ws:List (Int×Int)}{da:Option Addr}{dcap:Nat}{ds:List (Int×Int)}(t:Z6 w h W v K wa wcap ws da dcap ds)(hcap:∀(i:Nat) (hi:i<h.os.length),h.os[i].r.length≤h.os[i].rcap):Fit W {h with wa:=wa,wcap:=wcap,ws:=ws,da:=da,dcap:=dcap,ds:=ds}:=t.ok.fit t.isIn hcap
theorem Z6.tr {w:World}{h:Hp}{W:World}{v:Value}{K:List Int}{wa:Option Addr}{wcap:Nat}{ws:List (Int×Int)}{da:Option Addr}{dcap:Nat}{ds:List (Int×Int)}(t:Z6 w h W v K wa wcap ws da dcap ds)(hcap:∀(i:Nat) (hi:i<h.os.length),h.os[i].r.length≤h.os[i].rcap):Tr {h with wa:=wa,wcap:=wcap,ws:=ws,da:=da,dcap:=dcap,ds:=ds}:=Y0 (Yo t.ok) t.ok.small hcap
theorem Z6.told {w:World}{h:Hp}{W w3 w6:World}{v:Value}{K:List Int}{wa:Option Addr}{wcap:Nat}{ws:List (Int×Int)}{da:Option Addr}{dcap:Nat}{ds:List (Int×Int)}(t:Z6 w h W v K wa wcap ws da dcap ds){na ea:Option Addr}{nc ec:Nat}{ns es:List (Int×Int)}
 (hb3:Below W.heap.size W w3)(hn:Qe w3 W.heap.size (.slice na ns.length nc) ns)(hb6:Below w3.heap.size (w3.setCell ⟨w.heap.size,2,none⟩ (.slice na ns.length nc)) w6)(he:Qe w6 W.heap.size (.slice ea es.length ec) es)
 (h1:∀p∈ns,p∈ws)(h2:∀p∈es,p∈ws∨p∈ds)(h3:ns.length+es.length≤ws.length+ds.length):
 Z6 w h (w6.setCell ⟨w.heap.size,3,none⟩ (.slice ea es.length ec)) v K na nc ns ea ec es∧Qf 27 W (w6.setCell ⟨w.heap.size,3,none⟩ (.slice ea es.length ec)):=by
 have s3:(w3.setCell ⟨w.heap.size,2,none⟩ (.slice na ns.length nc)).heap.size=w3.heap.size:=by simp[World.setCell]
 have bh3:=t.bh.step hb3;have br3:=t.br.step hb3;have bh3s:=bh3.store 2 (.slice na ns.length nc);have br3s:=br3.other ⟨w.heap.size,2,none⟩ (.slice na ns.length nc) (by dsimp only;omega);have hb6':Below (w3.setCell ⟨w.heap.size,2,none⟩ (.slice na ns.length nc)).heap.size (w3.setCell ⟨w.heap.size,2,none⟩ (.slice na ns.length nc)) w6:=by rw[s3];exact hb6
 have bh6:=bh3s.step hb6';have br6:=br3s.step hb6';have k1:Qf 27 W w3:=Qf.below _ hb3 (QhU _);have k2:Qf 27 w3 (w3.setCell ⟨w.heap.size,2,none⟩ (.slice na ns.length nc)):=Qf.set bh3 2 _;have k3:Qf 27 (w3.setCell ⟨w.heap.size,2,none⟩ (.slice na ns.length nc)) w6:=Qf.below _ hb6' (QhU _);have k4:Qf 27 w6 (w6.setCell ⟨w.heap.size,3,none⟩ (.slice ea es.length ec)):=Qf.set bh6 3 _;have kk:=((k1.trans k2).trans k3).trans k4;have hWs:=t.be.size;have hlt:=t.br.lt;have i6:=((t.isIn.below hb3 (QhU _)).grown (Q1 w3 w.heap.size 2 (.slice na ns.length nc)) t.ab).below hb6' (QhU _);have i7:=i6.grown (Q1 w6 w.heap.size 3 (.slice ea es.length ec)) t.ab;have hn7:Qe (w6.setCell ⟨w.heap.size,3,none⟩ (.slice ea es.length ec)) W.heap.size (.slice na ns.length nc) ns:=Qm hn ((k2.trans k3).trans k4) (by decide);have he7:Qe (w6.setCell ⟨w.heap.size,3,none⟩ (.slice ea es.length ec)) W.heap.size (.slice ea es.length ec) es:=Qm he k4 (by decide);have av1:∀(r:Option Nat),(∀k,r=some k→k<W.heap.size)→AvI na ns.length r∧AvI ea es.length r:=fun r hr=>⟨Uj (cap:=nc) (fun k q=>(hn.lt k q).1) hr,Uj (cap:=ec) (fun k q=>(he.lt k q).1) hr⟩;obtain⟨p1,p2⟩:=av1 v.ownBlock (fun k q=>(t.kn.lt k q).2);obtain⟨p3,p4⟩:=av1 (some w.heap.size) (fun k q=>by simp at q;omega);obtain⟨p5,p6⟩:=av1 (some (w.heap.size+1)) (fun k q=>by simp at q;omega);refine⟨⟨bh6.store 3 _,br6.other _ _ (by dsimp only;omega),?_,⟨i7.so,i7.sr,?_,?_⟩,t.ok.tell h1 h2 h3 na nc ea ec,Qm t.kn kk (by decide),t.pl,⟨t.av.ao,t.av.aoo,t.av.ar,p1,p2⟩,⟨t.ab.ao,t.ab.aoo,t.ab.ar,p3,p4⟩,⟨t.ar.ao,t.ar.aoo,t.ar.ar,p5,p6⟩⟩,kk⟩
 ·exact(((t.be.trans (hb3.mono hWs)).setCell (QhU _) _).trans (hb6'.mono (by rw[s3];exact QhZ hWs hb3.size))).setCell (QhU _) _
 ·obtain⟨a,cap,e,hs,_⟩:=hn7.form;simp only[Value.slice.injEq]at e;rw[e.1];exact hs
 ·obtain⟨a,cap,e,hs,_⟩:=he7.form;simp only[Value.slice.injEq]at e;obtain⟨rfl,_⟩:=e;exact hs
theorem in4 {W:World}{B:Nat}{y:Hp}(hh:Qj W y)(hav:QM y (some B))(v0 v1 v2 v3:Value):Qj ((((W.setCell ⟨B,0,none⟩ v0).setCell ⟨B,1,none⟩ v1).setCell ⟨B,2,none⟩ v2).setCell ⟨B,3,none⟩ v3) y:=
 (((hh.grown (Q1 W B 0 v0) hav).grown (Q1 _ B 1 v1) hav).grown (Q1 _ B 2 v2) hav).grown (Q1 _ B 3 v3) hav
structure UH (k4:World) (m:Nat) (W:World) (l:List Ob) (vo:Value) (ps:List (Int×ByteArray×List Int)):Prop where
 mp:l.map Ob.p=ps
 bx:Blk W (m+1) [vo,.slice none 0 0,.slice none 0 0,.slice none 0 0] 27
 ob:Qw W (m+1) vo l
 rs:QN W (m+1) l
 be:Below (m+1) k4 W
theorem UH.step {k4:World}{m:Nat}{W W':World}{l:List Ob}{vo:Value}{ps:List (Int×ByteArray×List Int)}(c:UH k4 m W l vo ps)(hb:Below W.heap.size W W'):UH k4 m W' l vo ps:=
 ⟨c.mp,c.bx.step hb,c.ob.below hb (QhU _),c.rs.below hb (QhU _),c.be.trans (hb.mono (QhZ (Nat.le_of_lt c.bx.lt) (QhU _)))⟩
structure Yz (k4:World) (m:Nat) (W:World) (l:List Ob) (vo:Value) (ps:List (Int×ByteArray×List Int)) (M mo:Nat) (o:Ob) (X:List Int) (a:Option Addr) (cc k:Nat):Prop where
 pc:UH k4 m W l vo ps
 bo:Blk W mo [QhW .i64 o.k,Qh1 o.t,QhV a o.r.length cc] 37
 ro:Qa W M (.slice a o.r.length cc) (Jn (wh X) o.r k)
 lo:∀i (hi:i<l.length) q,l[i].rv.ownBlock=some q→q<M
 hM:m+1≤M
theorem Yz.step {k4:World}{m:Nat}{W W':World}{l:List Ob}{vo:Value}{ps:List (Int×ByteArray×List Int)}{M mo:Nat}{o:Ob}{X:List Int}{a:Option Addr}{cc k:Nat}(c:Yz k4 m W l vo ps M mo o X a cc k)(hb:Below W.heap.size W W'):Yz k4 m W' l vo ps M mo o X a cc k:=
 ⟨c.pc.step hb,c.bo.step hb,c.ro.below hb (QhU _),c.lo,c.hM⟩
theorem Yz.set {k4:World}{m:Nat}{W:World}{l:List Ob}{vo:Value}{ps:List (Int×ByteArray×List Int)}{M mo:Nat}{o:Ob}{X:List Int}{g cc k:Nat}(c:Yz k4 m W l vo ps M mo o X (some ⟨g,0,none⟩) cc k)(hk:k<o.r.length):Yz k4 m (W.setCell ⟨g,k,none⟩ (.int .i64 (wh X o.r[k]))) l vo ps M mo o X (some ⟨g,0,none⟩) cc (k+1):=by
 have hg:M≤g:=(c.ro.lt g rfl).1;have hM:=c.hM;have n1:m+1≠g:=fun q=>Qs c.ro c.pc.bx (by decide) (by rw[q];rfl);have n2:mo≠g:=fun q=>Qs c.ro c.bo (by decide) (by rw[q];rfl)
 have n3:vo.ownBlock≠some g:=fun q=>by
  rcases UB c.pc.ob c.ro (by decide)with e|e
  ·rw[e]at q;cases q
  ·exact e q
 refine⟨⟨c.pc.mp,c.pc.bx.other _ _ n1,ownsRow_setCell_other c.pc.ob n3 _,⟨fun i hi=>ownsRow_setCell_other (c.pc.rs.own i hi) (fun q=>?_) _,c.pc.rs.inc⟩,c.pc.be.setCell (by dsimp only;omega) _⟩,c.bo.other _ _ n2,?_,c.lo,c.hM⟩
 ·have:=c.lo i hi g q;omega
 ·have:=c.ro.set (UW _ _ _ (Nat.le_of_lt hk)).symm (k:=k) (wh X o.r[k]);rw[Pg _ _ _ hk]at this;exact this
theorem Yz.next {k4:World}{m:Nat}{W w3:World}{l:List Ob}{va:Option Addr}{vcap:Nat}{ps:List (Int×ByteArray×List Int)}{M mo:Nat}{o:Ob}{X:List Int}{a:Option Addr}{cc:Nat}(c:Yz k4 m W l (.slice va l.length vcap) ps M mo o X a cc o.r.length)
 (q cap:Nat)(hown:w3.ownsRow (m+1) 37 3 (.slice (some ⟨q,0,none⟩) (l.length+1) cap) (l.length+1) (l.flatMap Ob.cs++ [QhW .i64 o.k,Qh1 o.t,QhV a o.r.length cc]))(hg:(W.alloc (QhX #[QhW .i64 o.k,Qh1 o.t,QhV a o.r.length cc] 37)).grownBy w3 (QhV va l.length vcap).ownBlock):
 UH k4 m (w3.setCell ⟨m+1,0,none⟩ (.slice (some ⟨q,0,none⟩) (l.length+1) cap)) (l++ [⟨o.k,o.t,a,cc,o.r.map (wh X)⟩]) (.slice (some ⟨q,0,none⟩) (l.length+1) cap) (ps++ [QI X o]):=by
 have hA:Below W.heap.size W (W.alloc (QhX #[QhW .i64 o.k,Qh1 o.t,QhV a o.r.length cc] 37)):=QC _ _;have cA:=c.step hA;have hro:=cA.ro;rw[Pe]at hro;have hrv:(⟨o.k,o.t,a,cc,o.r.map (wh X)⟩:Ob).rv=.slice a o.r.length cc:=by simp[Ob.rv]
 have bx3:=cA.pc.bx.grown hg (Qs cA.pc.ob cA.pc.bx (by decide));have hown':Qw w3 (m+1) (.slice (some ⟨q,0,none⟩) (l.length+1) cap) (l++ [⟨o.k,o.t,a,cc,o.r.map (wh X)⟩]):=by unfold Qw;simpa[Ob.cs]using hown
 have rs3:=cA.pc.rs.grown cA.pc.ob (by decide) hg;have ro3:Qa w3 M (.slice a o.r.length cc) (o.r.map (wh X)):=QO hro cA.pc.ob hg (by decide);have k3:Qf 27 w3 (w3.setCell ⟨m+1,0,none⟩ (.slice (some ⟨q,0,none⟩) (l.length+1) cap)):=Qf.set bx3 0 _;have hs:m+1≤(W.alloc (QhX #[QhW .i64 o.k,Qh1 o.t,QhV a o.r.length cc] 37)).heap.size:=Nat.le_of_lt cA.pc.bx.lt;refine⟨by rw[List.map_append,c.pc.mp];rfl,bx3.store 0 _,Qm hown' k3 (by decide),?_,(cA.pc.be.trans (QJ hg hs (fun k e=>(cA.pc.ob.lt k e).1))).setCell (QhU _) _⟩;refine(rs3.snoc _ (by rw[hrv];exact ro3.base c.hM) fun i hi x y hx hy=>?_).keep k3;have h1:=c.lo i hi x hx;rw[hrv]at hy;have h2:=(ro3.lt y hy).1;omega
end
end Go.Proofs.YtcpnkpogebjieaaGreat
