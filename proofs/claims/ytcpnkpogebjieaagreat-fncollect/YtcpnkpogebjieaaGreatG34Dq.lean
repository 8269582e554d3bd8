/- The specification's own collecting: what is watched but for what was told. -/
import Derived.Test.YtcpnkpogebjieaaGreatG33Do
open List renaming setIfInBounds_toArray→Qhp,set_cons_zero→Qhq,set_cons_succ→Qhr,take_succ_eq_append_getElem→Qhz,take_of_length_le→QhA
open Or renaming inl→Qhs,inr→Qhu
open Go.Obj renaming cells→Qht
open Nat renaming le_refl→Qhv,lt_of_lt_of_le→Qhx,zero_le→Qhy
open Go.Value renaming int→Qhw
set_option maxHeartbeats 1600000
set_option maxRecDepth 100000
namespace Go.Proofs.YtcpnkpogebjieaaGreat
section
open Go.RowKit
def QP (ws told:List (Int×Int)):List (Int×Int):=ws.filter fun p=>!decide (p∈told)
theorem Qhk (ws told:List (Int×Int))(k:Nat)(hk:k<ws.length):QP (ws.take (k+1)) told=if decide (ws[k]∈told)=true then QP (ws.take k) told else QP (ws.take k) told++ [ws[k]]:=by
 unfold QP
 rw[Qhz hk,List.filter_append]
 cases h:decide (ws[k]∈told)<;>simp[h]
theorem Qhj (ws told:List (Int×Int))(k:Nat):(QP (ws.take k) told).length≤k:=Nat.le_trans (List.length_filter_le _ _) (List.length_take_le _ _)
theorem QeN (p:Int×Int)(l:List (Int×Int))(j:Nat)(hj:j<l.length):decide (p∈l.take (j+1))=(decide (p∈l.take j)||decide (l[j]=p)):=by
 rw[Qhz hj,Bool.eq_iff_iff]
 simp only[decide_eq_true_eq,Bool.or_eq_true,List.mem_append,List.mem_singleton]
 exact or_congr_right ⟨fun e=>e.symm,fun e=>e.symm⟩
theorem Qej (wa:Option Addr)(wcap:Nat)(ws:List (Int×Int))(ta:Option Addr)(tcap:Nat)(ts:List (Int×Int))(w:World)(hw:QE w wa ws)(hwl:ws.length≤1048576)(ht:QE w ta ts)(htl:ts.length≤1048576):
 Calls Cut.prog 84 #[.slice wa ws.length wcap,.slice ta ts.length tcap] w fun e w'=>∃v',e=.returned v'∧Qe w' w.heap.size v' (QP ws ts)∧Below w.heap.size w w':=by
 obtain⟨i0,hi,hz0,hz1,hz2⟩:=info_parts Jx
 have hB0:Below w.heap.size w (w.alloc (Qht #[] 40)):=Qz _ _
 have hO0:=World.ownsRow_lit (e:=40) (size:=2) (base:=w.heap.size) w #[] 0 (Qhv _) (Qhy _) rfl
 go_enter (Cut.func_of Tryz.func84 rfl),Tryz.ntmps84
 go_wp2
 go_loopw [5,6,7,8] (fun v i _ _ wr=>∃k:Nat,k≤ws.length∧i=.int .i64 k∧Qe wr w.heap.size v (QP (ws.take k) ts)∧Below w.heap.size w wr) (fun _ i _ _ _=>ws.length-(intOf i).toNat)
 case atStart=>exact⟨0,Qhy _,rfl,hO0,hB0⟩
 case round=>
  obtain⟨k,hk,rfl,hown,hb⟩:=hrel
  clear hO0 hB0
  by_cases hlt:k<ws.length
  ·obtain⟨b,off,rfl,hbw,e1,e2⟩:=hw.get hlt
   have d1:=(hb.cell (p:=⟨b,off+k*2,none⟩) hbw).trans e1
   have d2:=(hb.cell (p:=⟨b,off+k*2+1,none⟩) hbw).trans e2
   have HF:=Qhk ws ts k hlt
   have hfl:=Qhj ws ts k
   have hi1:(k:Int)<(ws.length:Int):=by omega
   generalize hP:ws[k]=p at *
   clear hP e1 e2
   obtain⟨g1,g2⟩:=p
   dsimp only at *
   have HFF:Hid (QP (ws.take (k+1)) ts=if decide ((g1,g2)∈ts)=true then QP (ws.take k) ts else QP (ws.take k) ts++ [(g1,g2)]):=HF
   clear HF
   generalize hwo:wr=wo at *
   clear hwo
   go_wp2
   go_loopw [7,8] (fun f i wq=>∃j:Nat,j≤ts.length∧i=.int .i64 j∧f=.bool (decide ((g1,g2)∈ts.take j))∧wq.heap=wo.heap∧Below wo.heap.size wo wq) (fun _ i _=>ts.length-(intOf i).toNat)
   case atStart=>exact⟨0,Qhy _,rfl,by simp,rfl,Below.refl _ _⟩
   case round=>
    obtain⟨j,hj,rfl,rfl,hheap,hbq⟩:=hrel
    by_cases hjt:j<ts.length
    ·obtain⟨tb,toff,rfl,htb,t1',t2'⟩:=ht.get hjt
     have hbw2:=hb.trans (hbq.mono hb.size)
     have f1:=(hbw2.cell (p:=⟨tb,toff+j*2,none⟩) htb).trans t1'
     have f2:=(hbw2.cell (p:=⟨tb,toff+j*2+1,none⟩) htb).trans t2'
     have f3:=(hbq.cell (p:=⟨b,off+k*2,none⟩) (Qhx hbw hb.size)).trans d1
     have f4:=(hbq.cell (p:=⟨b,off+k*2+1,none⟩) (Qhx hbw hb.size)).trans d2
     have HM:Hid (decide ((g1,g2)∈ts.take (j+1))=(decide ((g1,g2)∈ts.take j)||decide (ts[j]=(g1,g2)))):=QeN _ _ _ hjt
     have hj1:(j:Int)<(ts.length:Int):=by omega
     have hdq:=hbq.drew
     have hhd:wr.drew.heap=wo.heap:=hheap
     generalize hTT:ts[j]=tt at *
     clear hTT t1' t2'
     obtain⟨t1,t2⟩:=tt
     dsimp only at *
     have hS:(fun(W':World)=>(W'.cell? ⟨tb,toff+j*2,none⟩=some (.int .i64 t1)∧W'.cell? ⟨tb,toff+j*2+1,none⟩=some (.int .i64 t2))∧W'.cell? ⟨b,off+k*2,none⟩=some (.int .i64 g1)∧W'.cell? ⟨b,off+k*2+1,none⟩=some (.int .i64 g2)) wr.drew:=⟨⟨f1,f2⟩,f3,f4⟩
     cases hfd:decide ((g1,g2)∈ts.take j)with
     |true=>
      have HN:Hid (Value.bool true=.bool (decide ((g1,g2)∈ts.take (j+1)))):=by
       show _=_
       rw[HM.out,hfd];rfl
      clear hfd
      go_wp2_with fail
      refine wp_region_held_drew (S:=(fun(W':World)=>(W'.cell? ⟨tb,toff+j*2,none⟩=some (.int .i64 t1)∧W'.cell? ⟨tb,toff+j*2+1,none⟩=some (.int .i64 t2))∧W'.cell? ⟨b,off+k*2,none⟩=some (.int .i64 g1)∧W'.cell? ⟨b,off+k*2+1,none⟩=some (.int .i64 g2))) (by kernel_rfl) hS (fun hHeld=>?_)
      clear hHeld
      refine Qi (i:=0) (v:=?_) 22 rfl rfl (by kernel_rfl) (by kernel_rfl) (by kernel_rfl) (fun _ _ _ h=>h) (Qhs ⟨by rfl,?_⟩) hS ?_
      rotate_left
      ·intro W hSw
       try dsimp only at hSw
       go_simp
       try with_reducible rfl
      simp only[Qhp,Qhq,Qhr]
      refine Qi (i:=1) (v:=?_) 23 rfl rfl (by kernel_rfl) (by kernel_rfl) (by kernel_rfl) (fun _ _ _ h=>h) (Qhs ⟨by rfl,?_⟩) hS ?_
      rotate_left
      ·intro W hSw
       try dsimp only at hSw
       go_simp
       try with_reducible rfl
      simp only[Qhp,Qhq,Qhr]
      refine Qi (i:=2) (v:=undef) 24 rfl rfl (by kernel_rfl) (by kernel_rfl) (by kernel_rfl) (fun _ _ _ h=>h) (Qhu ⟨by rfl,rfl⟩) hS ?_
      simp only[Qhp,Qhq,Qhr]
      refine Qi (i:=3) (v:=undef) 25 rfl rfl (by kernel_rfl) (by kernel_rfl) (by kernel_rfl) (fun _ _ _ h=>h) (Qhu ⟨by rfl,rfl⟩) hS ?_
      simp only[Qhp,Qhq,Qhr]
      refine Qi (i:=4) (v:=undef) 26 rfl rfl (by kernel_rfl) (by kernel_rfl) (by kernel_rfl) (fun _ _ _ h=>h) (Qhu ⟨by rfl,rfl⟩) hS ?_
      simp only[Qhp,Qhq,Qhr]
      refine Qi (i:=5) (v:=undef) 27 rfl rfl (by kernel_rfl) (by kernel_rfl) (by kernel_rfl) (fun _ _ _ h=>h) (Qhu ⟨by rfl,rfl⟩) hS ?_
      simp only[Qhp,Qhq,Qhr]
      refine Qi (i:=6) (v:=undef) 28 rfl rfl (by kernel_rfl) (by kernel_rfl) (by kernel_rfl) (fun _ _ _ h=>h) (Qhu ⟨by rfl,rfl⟩) hS ?_
      simp only[Qhp,Qhq,Qhr]
      refine Qi (i:=7) (v:=undef) 29 rfl rfl (by kernel_rfl) (by kernel_rfl) (by kernel_rfl) (fun _ _ _ h=>h) (Qhu ⟨by rfl,rfl⟩) hS ?_
      simp only[Qhp,Qhq,Qhr]
      refine Qi (i:=8) (v:=undef) 30 rfl rfl (by kernel_rfl) (by kernel_rfl) (by kernel_rfl) (fun _ _ _ h=>h) (Qhu ⟨by rfl,rfl⟩) hS ?_
      simp only[Qhp,Qhq,Qhr]
      refine Qi (i:=9) (v:=undef) 31 rfl rfl (by kernel_rfl) (by kernel_rfl) (by kernel_rfl) (fun _ _ _ h=>h) (Qhu ⟨by rfl,rfl⟩) hS ?_
      simp only[Qhp,Qhq,Qhr]
      refine Qi (i:=10) (v:=undef) 32 rfl rfl (by kernel_rfl) (by kernel_rfl) (by kernel_rfl) (fun _ _ _ h=>h) (Qhu ⟨by rfl,rfl⟩) hS ?_
      simp only[Qhp,Qhq,Qhr]
      refine Qi (i:=11) (v:=?_) 33 rfl rfl (by kernel_rfl) (by kernel_rfl) (by kernel_rfl) (fun _ _ _ h=>h) (Qhs ⟨by rfl,?_⟩) hS ?_
      rotate_left
      ·intro W hSw
       try dsimp only at hSw
       go_simp
       try with_reducible rfl
      simp only[Qhp,Qhq,Qhr]
      refine Qi (i:=12) (v:=?_) 7 rfl rfl (by kernel_rfl) (by kernel_rfl) (by kernel_rfl) (fun _ _ _ h=>h) (Qhs ⟨by rfl,?_⟩) hS ?_
      rotate_left
      ·intro W hSw
       try dsimp only at hSw
       go_simp
       try with_reducible rfl
      simp only[Qhp,Qhq,Qhr]
      refine wpAnyH_done (by kernel_rfl) ?_ _
      go_wp2
      go_roundw
      case rel=>exact⟨j+1,by omega,by go_num,HN.out,hhd,hdq⟩
      case measure=>simp[intOf];omega
     |false=>
      by_cases hE:(t1,t2)=(g1,g2)
      ·have HN:Hid (Value.bool true=.bool (decide ((g1,g2)∈ts.take (j+1)))):=by
        show _=_
        rw[HM.out,hfd];simp[hE]
       simp only[Prod.mk.injEq]at hE
       obtain⟨hE1,hE2⟩:=hE
       clear hfd
       go_wp2_with fail
       refine wp_region_held_drew (S:=(fun(W':World)=>(W'.cell? ⟨tb,toff+j*2,none⟩=some (.int .i64 t1)∧W'.cell? ⟨tb,toff+j*2+1,none⟩=some (.int .i64 t2))∧W'.cell? ⟨b,off+k*2,none⟩=some (.int .i64 g1)∧W'.cell? ⟨b,off+k*2+1,none⟩=some (.int .i64 g2))) (by kernel_rfl) hS (fun hHeld=>?_)
       clear hHeld
       refine Qi (i:=0) (v:=?_) 22 rfl rfl (by kernel_rfl) (by kernel_rfl) (by kernel_rfl) (fun _ _ _ h=>h) (Qhs ⟨by rfl,?_⟩) hS ?_
       rotate_left
       ·intro W hSw
        try dsimp only at hSw
        go_simp
        try with_reducible rfl
       simp only[Qhp,Qhq,Qhr]
       refine Qi (i:=1) (v:=?_) 23 rfl rfl (by kernel_rfl) (by kernel_rfl) (by kernel_rfl) (fun _ _ _ h=>h) (Qhs ⟨by rfl,?_⟩) hS ?_
       rotate_left
       ·intro W hSw
        try dsimp only at hSw
        go_simp
        try with_reducible rfl
       simp only[Qhp,Qhq,Qhr]
       refine Qi (i:=2) (v:=?_) 24 rfl rfl (by kernel_rfl) (by kernel_rfl) (by kernel_rfl) (fun _ _ _ h=>h) (Qhs ⟨by rfl,?_⟩) hS ?_
       rotate_left
       ·intro W hSw
        try dsimp only at hSw
        go_simp
        try with_reducible rfl
       simp only[Qhp,Qhq,Qhr]
       refine Qi (i:=3) (v:=?_) 25 rfl rfl (by kernel_rfl) (by kernel_rfl) (by kernel_rfl) (fun _ _ _ h=>h) (Qhs ⟨by rfl,?_⟩) hS ?_
       rotate_left
       ·intro W hSw
        try dsimp only at hSw
        go_simp
        try with_reducible rfl
       simp only[Qhp,Qhq,Qhr]
       refine Qi (i:=4) (v:=?_) 26 rfl rfl (by kernel_rfl) (by kernel_rfl) (by kernel_rfl) (fun _ _ _ h=>h) (Qhs ⟨by rfl,?_⟩) hS ?_
       rotate_left
       ·intro W hSw
        try dsimp only at hSw
        go_simp
        try with_reducible rfl
       simp only[Qhp,Qhq,Qhr]
       refine Qi (i:=5) (v:=?_) 27 rfl rfl (by kernel_rfl) (by kernel_rfl) (by kernel_rfl) (fun _ _ _ h=>h) (Qhs ⟨by rfl,?_⟩) hS ?_
       rotate_left
       ·intro W hSw
        try dsimp only at hSw
        go_simp
        try with_reducible rfl
       simp only[Qhp,Qhq,Qhr]
       refine Qi (i:=6) (v:=?_) 28 rfl rfl (by kernel_rfl) (by kernel_rfl) (by kernel_rfl) (fun _ _ _ h=>h) (Qhs ⟨by rfl,?_⟩) hS ?_
       rotate_left
       ·intro W hSw
        try dsimp only at hSw
        go_simp
        try with_reducible rfl
       simp only[Qhp,Qhq,Qhr]
       refine Qi (i:=7) (v:=?_) 29 rfl rfl (by kernel_rfl) (by kernel_rfl) (by kernel_rfl) (fun _ _ _ h=>h) (Qhs ⟨by rfl,?_⟩) hS ?_
       rotate_left
       ·intro W hSw
        try dsimp only at hSw
        go_simp
        try with_reducible rfl
       simp only[Qhp,Qhq,Qhr]
       refine Qi (i:=8) (v:=?_) 30 rfl rfl (by kernel_rfl) (by kernel_rfl) (by kernel_rfl) (fun _ _ _ h=>h) (Qhs ⟨by rfl,?_⟩) hS ?_
       rotate_left
       ·intro W hSw
        try dsimp only at hSw
        go_simp
        try with_reducible rfl
       simp only[Qhp,Qhq,Qhr]
       refine Qi (i:=9) (v:=?_) 31 rfl rfl (by kernel_rfl) (by kernel_rfl) (by kernel_rfl) (fun _ _ _ h=>h) (Qhs ⟨by rfl,?_⟩) hS ?_
       rotate_left
       ·intro W hSw
        try dsimp only at hSw
        go_simp
        try with_reducible rfl
       simp only[Qhp,Qhq,Qhr]
       refine Qi (i:=10) (v:=?_) 32 rfl rfl (by kernel_rfl) (by kernel_rfl) (by kernel_rfl) (fun _ _ _ h=>h) (Qhs ⟨by rfl,?_⟩) hS ?_
       rotate_left
       ·intro W hSw
        try dsimp only at hSw
        go_simp
        try with_reducible rfl
       simp only[Qhp,Qhq,Qhr]
       refine Qi (i:=11) (v:=?_) 33 rfl rfl (by kernel_rfl) (by kernel_rfl) (by kernel_rfl) (fun _ _ _ h=>h) (Qhs ⟨by rfl,?_⟩) hS ?_
       rotate_left
       ·intro W hSw
        try dsimp only at hSw
        go_simp
        try with_reducible rfl
       simp only[Qhp,Qhq,Qhr]
       refine Qi (i:=12) (v:=?_) 7 rfl rfl (by kernel_rfl) (by kernel_rfl) (by kernel_rfl) (fun _ _ _ h=>h) (Qhs ⟨by rfl,?_⟩) hS ?_
       rotate_left
       ·intro W hSw
        try dsimp only at hSw
        go_simp
        try with_reducible rfl
       simp only[Qhp,Qhq,Qhr]
       refine wpAnyH_done (by kernel_rfl) ?_ _
       go_wp2
       go_roundw
       case rel=>exact⟨j+1,by omega,by go_num,HN.out,hhd,hdq⟩
       case measure=>simp[intOf];omega
      ·have HN:Hid (Value.bool false=.bool (decide ((g1,g2)∈ts.take (j+1)))):=by
        show _=_
        rw[HM.out,hfd];simp[hE]
       have hpp:¬(t1=g1∧t2=g2):=fun q=>hE (by rw[q.1,q.2])
       clear hfd hE
       by_cases h1:t1=g1
       ·have h2:¬t2=g2:=fun q=>hpp ⟨h1,q⟩
        clear hpp
        go_wp2_with fail
        refine wp_region_held_drew (S:=(fun(W':World)=>(W'.cell? ⟨tb,toff+j*2,none⟩=some (.int .i64 t1)∧W'.cell? ⟨tb,toff+j*2+1,none⟩=some (.int .i64 t2))∧W'.cell? ⟨b,off+k*2,none⟩=some (.int .i64 g1)∧W'.cell? ⟨b,off+k*2+1,none⟩=some (.int .i64 g2))) (by kernel_rfl) hS (fun hHeld=>?_)
        clear hHeld
        refine Qi (i:=0) (v:=?_) 22 rfl rfl (by kernel_rfl) (by kernel_rfl) (by kernel_rfl) (fun _ _ _ h=>h) (Qhs ⟨by rfl,?_⟩) hS ?_
        rotate_left
        ·intro W hSw
         try dsimp only at hSw
         go_simp
         try with_reducible rfl
        simp only[Qhp,Qhq,Qhr]
        refine Qi (i:=1) (v:=?_) 23 rfl rfl (by kernel_rfl) (by kernel_rfl) (by kernel_rfl) (fun _ _ _ h=>h) (Qhs ⟨by rfl,?_⟩) hS ?_
        rotate_left
        ·intro W hSw
         try dsimp only at hSw
         go_simp
         try with_reducible rfl
        simp only[Qhp,Qhq,Qhr]
        refine Qi (i:=2) (v:=?_) 24 rfl rfl (by kernel_rfl) (by kernel_rfl) (by kernel_rfl) (fun _ _ _ h=>h) (Qhs ⟨by rfl,?_⟩) hS ?_
        rotate_left
        ·intro W hSw
         try dsimp only at hSw
         go_simp
         try with_reducible rfl
        simp only[Qhp,Qhq,Qhr]
        refine Qi (i:=3) (v:=?_) 25 rfl rfl (by kernel_rfl) (by kernel_rfl) (by kernel_rfl) (fun _ _ _ h=>h) (Qhs ⟨by rfl,?_⟩) hS ?_
        rotate_left
        ·intro W hSw
         try dsimp only at hSw
         go_simp
         try with_reducible rfl
        simp only[Qhp,Qhq,Qhr]
        refine Qi (i:=4) (v:=?_) 26 rfl rfl (by kernel_rfl) (by kernel_rfl) (by kernel_rfl) (fun _ _ _ h=>h) (Qhs ⟨by rfl,?_⟩) hS ?_
        rotate_left
        ·intro W hSw
         try dsimp only at hSw
         go_simp
         try with_reducible rfl
        simp only[Qhp,Qhq,Qhr]
        refine Qi (i:=5) (v:=?_) 27 rfl rfl (by kernel_rfl) (by kernel_rfl) (by kernel_rfl) (fun _ _ _ h=>h) (Qhs ⟨by rfl,?_⟩) hS ?_
        rotate_left
        ·intro W hSw
         try dsimp only at hSw
         go_simp
         try with_reducible rfl
        simp only[Qhp,Qhq,Qhr]
        refine Qi (i:=6) (v:=?_) 28 rfl rfl (by kernel_rfl) (by kernel_rfl) (by kernel_rfl) (fun _ _ _ h=>h) (Qhs ⟨by rfl,?_⟩) hS ?_
        rotate_left
        ·intro W hSw
         try dsimp only at hSw
         go_simp
         try with_reducible rfl
        simp only[Qhp,Qhq,Qhr]
        refine Qi (i:=7) (v:=?_) 29 rfl rfl (by kernel_rfl) (by kernel_rfl) (by kernel_rfl) (fun _ _ _ h=>h) (Qhs ⟨by rfl,?_⟩) hS ?_
        rotate_left
        ·intro W hSw
         try dsimp only at hSw
         go_simp
         try with_reducible rfl
        simp only[Qhp,Qhq,Qhr]
        refine Qi (i:=8) (v:=?_) 30 rfl rfl (by kernel_rfl) (by kernel_rfl) (by kernel_rfl) (fun _ _ _ h=>h) (Qhs ⟨by rfl,?_⟩) hS ?_
        rotate_left
        ·intro W hSw
         try dsimp only at hSw
         go_simp
         try with_reducible rfl
        simp only[Qhp,Qhq,Qhr]
        refine Qi (i:=9) (v:=?_) 31 rfl rfl (by kernel_rfl) (by kernel_rfl) (by kernel_rfl) (fun _ _ _ h=>h) (Qhs ⟨by rfl,?_⟩) hS ?_
        rotate_left
        ·intro W hSw
         try dsimp only at hSw
         go_simp
         try with_reducible rfl
        simp only[Qhp,Qhq,Qhr]
        refine Qi (i:=10) (v:=?_) 32 rfl rfl (by kernel_rfl) (by kernel_rfl) (by kernel_rfl) (fun _ _ _ h=>h) (Qhs ⟨by rfl,?_⟩) hS ?_
        rotate_left
        ·intro W hSw
         try dsimp only at hSw
         go_simp
         try with_reducible rfl
        simp only[Qhp,Qhq,Qhr]
        refine Qi (i:=11) (v:=?_) 33 rfl rfl (by kernel_rfl) (by kernel_rfl) (by kernel_rfl) (fun _ _ _ h=>h) (Qhs ⟨by rfl,?_⟩) hS ?_
        rotate_left
        ·intro W hSw
         try dsimp only at hSw
         go_simp
         try with_reducible rfl
        simp only[Qhp,Qhq,Qhr]
        refine Qi (i:=12) (v:=?_) 7 rfl rfl (by kernel_rfl) (by kernel_rfl) (by kernel_rfl) (fun _ _ _ h=>h) (Qhs ⟨by rfl,?_⟩) hS ?_
        rotate_left
        ·intro W hSw
         try dsimp only at hSw
         go_simp
         try with_reducible rfl
        simp only[Qhp,Qhq,Qhr]
        refine wpAnyH_done (by kernel_rfl) ?_ _
        go_wp2
        go_roundw
        case rel=>exact⟨j+1,by omega,by go_num,HN.out,hhd,hdq⟩
        case measure=>simp[intOf];omega
       ·clear hpp
        go_wp2_with fail
        refine wp_region_held_drew (S:=(fun(W':World)=>(W'.cell? ⟨tb,toff+j*2,none⟩=some (.int .i64 t1)∧W'.cell? ⟨tb,toff+j*2+1,none⟩=some (.int .i64 t2))∧W'.cell? ⟨b,off+k*2,none⟩=some (.int .i64 g1)∧W'.cell? ⟨b,off+k*2+1,none⟩=some (.int .i64 g2))) (by kernel_rfl) hS (fun hHeld=>?_)
        clear hHeld
        refine Qi (i:=0) (v:=?_) 22 rfl rfl (by kernel_rfl) (by kernel_rfl) (by kernel_rfl) (fun _ _ _ h=>h) (Qhs ⟨by rfl,?_⟩) hS ?_
        rotate_left
        ·intro W hSw
         try dsimp only at hSw
         go_simp
         try with_reducible rfl
        simp only[Qhp,Qhq,Qhr]
        refine Qi (i:=1) (v:=?_) 23 rfl rfl (by kernel_rfl) (by kernel_rfl) (by kernel_rfl) (fun _ _ _ h=>h) (Qhs ⟨by rfl,?_⟩) hS ?_
        rotate_left
        ·intro W hSw
         try dsimp only at hSw
         go_simp
         try with_reducible rfl
        simp only[Qhp,Qhq,Qhr]
        refine Qi (i:=2) (v:=?_) 24 rfl rfl (by kernel_rfl) (by kernel_rfl) (by kernel_rfl) (fun _ _ _ h=>h) (Qhs ⟨by rfl,?_⟩) hS ?_
        rotate_left
        ·intro W hSw
         try dsimp only at hSw
         go_simp
         try with_reducible rfl
        simp only[Qhp,Qhq,Qhr]
        refine Qi (i:=3) (v:=?_) 25 rfl rfl (by kernel_rfl) (by kernel_rfl) (by kernel_rfl) (fun _ _ _ h=>h) (Qhs ⟨by rfl,?_⟩) hS ?_
        rotate_left
        ·intro W hSw
         try dsimp only at hSw
         go_simp
         try with_reducible rfl
        simp only[Qhp,Qhq,Qhr]
        refine Qi (i:=4) (v:=?_) 26 rfl rfl (by kernel_rfl) (by kernel_rfl) (by kernel_rfl) (fun _ _ _ h=>h) (Qhs ⟨by rfl,?_⟩) hS ?_
        rotate_left
        ·intro W hSw
         try dsimp only at hSw
         go_simp
         try with_reducible rfl
        simp only[Qhp,Qhq,Qhr]
        refine Qi (i:=5) (v:=?_) 27 rfl rfl (by kernel_rfl) (by kernel_rfl) (by kernel_rfl) (fun _ _ _ h=>h) (Qhs ⟨by rfl,?_⟩) hS ?_
        rotate_left
        ·intro W hSw
         try dsimp only at hSw
         go_simp
         try with_reducible rfl
        simp only[Qhp,Qhq,Qhr]
        refine Qi (i:=6) (v:=?_) 28 rfl rfl (by kernel_rfl) (by kernel_rfl) (by kernel_rfl) (fun _ _ _ h=>h) (Qhs ⟨by rfl,?_⟩) hS ?_
        rotate_left
        ·intro W hSw
         try dsimp only at hSw
         go_simp
         try with_reducible rfl
        simp only[Qhp,Qhq,Qhr]
        refine Qi (i:=7) (v:=?_) 29 rfl rfl (by kernel_rfl) (by kernel_rfl) (by kernel_rfl) (fun _ _ _ h=>h) (Qhs ⟨by rfl,?_⟩) hS ?_
        rotate_left
        ·intro W hSw
         try dsimp only at hSw
         go_simp
         try with_reducible rfl
        simp only[Qhp,Qhq,Qhr]
        refine Qi (i:=8) (v:=?_) 30 rfl rfl (by kernel_rfl) (by kernel_rfl) (by kernel_rfl) (fun _ _ _ h=>h) (Qhs ⟨by rfl,?_⟩) hS ?_
        rotate_left
        ·intro W hSw
         try dsimp only at hSw
         go_simp
         try with_reducible rfl
        simp only[Qhp,Qhq,Qhr]
        refine Qi (i:=9) (v:=?_) 31 rfl rfl (by kernel_rfl) (by kernel_rfl) (by kernel_rfl) (fun _ _ _ h=>h) (Qhs ⟨by rfl,?_⟩) hS ?_
        rotate_left
        ·intro W hSw
         try dsimp only at hSw
         go_simp
         try with_reducible rfl
        simp only[Qhp,Qhq,Qhr]
        refine Qi (i:=10) (v:=?_) 32 rfl rfl (by kernel_rfl) (by kernel_rfl) (by kernel_rfl) (fun _ _ _ h=>h) (Qhs ⟨by rfl,?_⟩) hS ?_
        rotate_left
        ·intro W hSw
         try dsimp only at hSw
         go_simp
         try with_reducible rfl
        simp only[Qhp,Qhq,Qhr]
        refine Qi (i:=11) (v:=?_) 33 rfl rfl (by kernel_rfl) (by kernel_rfl) (by kernel_rfl) (fun _ _ _ h=>h) (Qhs ⟨by rfl,?_⟩) hS ?_
        rotate_left
        ·intro W hSw
         try dsimp only at hSw
         go_simp
         try with_reducible rfl
        simp only[Qhp,Qhq,Qhr]
        refine Qi (i:=12) (v:=?_) 7 rfl rfl (by kernel_rfl) (by kernel_rfl) (by kernel_rfl) (fun _ _ _ h=>h) (Qhs ⟨by rfl,?_⟩) hS ?_
        rotate_left
        ·intro W hSw
         try dsimp only at hSw
         go_simp
         try with_reducible rfl
        simp only[Qhp,Qhq,Qhr]
        refine wpAnyH_done (by kernel_rfl) ?_ _
        go_wp2
        go_roundw
        case rel=>exact⟨j+1,by omega,by go_num,HN.out,hhd,hdq⟩
        case measure=>simp[intOf];omega
    ·have ej:ts.take j=ts:=QhA (by omega)
     rw[ej]
     have hown2:=Qe.below hown hbq (Qhv _)
     have hb2:=hb.trans (hbq.mono hb.size)
     have f3:=(hbq.cell (p:=⟨b,off+k*2,none⟩) (Qhx hbw hb.size)).trans d1
     have f4:=(hbq.cell (p:=⟨b,off+k*2+1,none⟩) (Qhx hbw hb.size)).trans d2
     obtain⟨va,vcap,rfl,-⟩:=hown.form
     clear ej hown hb hbq d1 d2 hheap
     cases hfd:decide ((g1,g2)∈ts)with
     |true=>
      have HN:Hid (Qe wr w.heap.size (.slice va (QP (ws.take k) ts).length vcap) (QP (ws.take (k+1)) ts)):=by
       show Qe _ _ _ _
       rw[HFF.out,hfd,if_pos rfl];exact hown2
      clear hfd
      go_wp2
      go_roundw
      case rel=>exact⟨k+1,by omega,by go_num,HN.out,hb2⟩
      case measure=>simp[intOf];omega
     |false=>
      have HF':Hid (QP (ws.take (k+1)) ts=QP (ws.take k) ts++ [(g1,g2)]):=by
       show _=_
       rw[HFF.out,hfd];rfl
      clear hfd
      generalize hL:QP (ws.take k) ts=L at *
      have HL:Hid (QP (ws.take k) ts=L):=hL
      clear hL
      have hA2:Below wr.heap.size wr (wr.alloc (Qht #[Qhw .i64 g1,Qhw .i64 g2] 40)):=Qz _ _
      have hvA:(wr.alloc (Qht #[Qhw .i64 g1,Qhw .i64 g2] 40)).ownsRow w.heap.size 40 2 (.slice va L.length vcap) L.length (L.flatMap wc):=hown2.below hA2 (Qhv _)
      have hbA2:=hb2.trans (hA2.mono hb2.size)
      have HEND:Hid (∀v' w3,w3.ownsRow w.heap.size 40 2 v' (L.length+1) (L.flatMap wc++ [.int .i64 g1,.int .i64 g2])→(wr.alloc (Qht #[Qhw .i64 g1,Qhw .i64 g2] 40)).grownBy w3 (Value.slice va L.length vcap).ownBlock→Qe w3 w.heap.size v' (QP (ws.take (k+1)) ts)∧Below w.heap.size w w3):=fun v' w3 ho hg=>by
       refine⟨?_,hbA2.trans (QL hg hbA2.size (fun q e=>(hvA.lt q e).1))⟩
       rw[HF'.out]
       unfold Qe
       simpa[wc]using ho
      have hl1:L.length+1≤maxLen:=by unfold maxLen;omega
      have hl2:(L.length+1)*16≤140737488355328:=by omega
      have hbs:=hbA2.size
      clear hA2 hbA2 hown2
      go_wp2_with (at_builtin;refine wpList_append_own_at _ rfl _ _ 25 rfl w.heap.size 40 i0 _ 2 16 ((Cut.under_eq 25).trans Tryz.underlying25) hi hz0 hz1 hz2 rfl (by decide) _ _ _ rfl hvA ⟨wr.heap.size,0,none⟩ 1 1 [.int .i64 g1,.int .i64 g2] rfl rfl (Yj (g1,g2) _) (JL [(g1,g2)]) hl1 hl2 hbs ?_)
      intro v' w3 hown3 hgr _ _
      obtain⟨ho3,hb3⟩:=HEND.out v' w3 hown3 hgr
      clear hown3 hgr HEND hvA
      go_wp2
      go_roundw
      case rel=>exact⟨k+1,by omega,by go_num,ho3,hb3⟩
      case measure=>simp[intOf];omega
  ·have ek:ws.take k=ws:=QhA (by omega)
   rw[ek]at hown
   clear ek
   go_wp2
   go_ret
   exact⟨_,rfl,hown,hb⟩
def Qw (ws:List (Int×Int))(x:List Int):List (Int×Int):=(ws.filter fun p=>decide (0≤pos x p.1)&&decide (0≤pos x p.2)).map fun p=>(pos x p.1,pos x p.2)
theorem QeT (ws:List (Int×Int))(x:List Int)(k:Nat)(hk:k<ws.length):Qw (ws.take (k+1)) x=if decide (0≤pos x ws[k].1)=true∧decide (0≤pos x ws[k].2)=true then Qw (ws.take k) x++ [(pos x ws[k].1,pos x ws[k].2)]else Qw (ws.take k) x:=by
 unfold Qw
 rw[Qhz hk,List.filter_append]
 by_cases h:decide (0≤pos x ws[k].1)=true∧decide (0≤pos x ws[k].2)=true
 ·rw[if_pos h]
  simp only[List.filter_cons,h.1,h.2,Bool.and_self,if_true,List.filter_nil,List.map_append,List.map_cons,List.map_nil]
 ·rw[if_neg h]
  have:(decide (0≤pos x ws[k].1)&&decide (0≤pos x ws[k].2))=false:=by
   rw[Bool.eq_false_iff]
   intro e
   rw[Bool.and_eq_true]at e
   exact h e
  simp[this]
theorem QeS (ws:List (Int×Int))(x:List Int)(k:Nat):(Qw (ws.take k) x).length≤k:=by
 unfold Qw
 rw[List.length_map]
 exact Nat.le_trans (List.length_filter_le _ _) (List.length_take_le _ _)
theorem OH (wa:Option Addr)(wcap:Nat)(ws:List (Int×Int))(xa:Option Addr)(xcap:Nat)(x:List Int)(w:World)(hw:QE w wa ws)(hwl:ws.length≤1048576)(hx:Qk w xa x)(hxl:x.length≤maxLen):
 Calls Cut.prog 39 #[.slice wa ws.length wcap,.slice xa x.length xcap] w fun e w'=>∃v',e=.returned v'∧Qe w' w.heap.size v' (Qw ws x)∧Below w.heap.size w w':=by
 obtain⟨i0,hi,hz0,hz1,hz2⟩:=info_parts Jx
 go_enter (Cut.func_of Tryz.func39 rfl),Tryz.ntmps39
 go_wp2
 have hO0:=World.ownsRow_lit (e:=40) (size:=2) (base:=w.heap.size) w #[] 0 (by simp) (Qhy _) rfl
 have hB0:Below w.heap.size w (w.alloc (Qht #[] 40)):=(Below.refl _ _).alloc (Qhv _) _
 go_loopw [5,6] (fun v i wr=>∃k:Nat,k≤ws.length∧i=.int .i64 k∧Qe wr w.heap.size v (Qw (ws.take k) x)∧Below w.heap.size w wr) (fun _ i _=>ws.length-(intOf i).toNat)
 case atStart=>exact⟨0,Qhy _,rfl,hO0,hB0⟩
 case round=>
  obtain⟨k,hk,rfl,hown,hb⟩:=hrel
  clear hO0 hB0
  by_cases hlt:k<ws.length
  ·obtain⟨b,off,rfl,hbw,e1,e2⟩:=hw.get hlt
   have d1:=(hb.cell (p:=⟨b,off+k*2,none⟩) hbw).trans e1
   have d2:=(hb.cell (p:=⟨b,off+k*2+1,none⟩) hbw).trans e2
   have sx:=hx.below hb (Qhv _)
   have sxd:Qk wr.drew xa x:=hx.below hb.drew (Qhv _)
   have HF:=QeT ws x k hlt
   have hfl:=QeS ws x k
   have hi1:(k:Int)<(ws.length:Int):=by omega
   clear e1 e2
   generalize ws[k].1=g1 at *
   generalize ws[k].2=g2 at *
   go_wp2_with fail
   refine(Yx xa _ xcap x g1 _ rfl hxl sx).mono ?_
   rintro e w1 ⟨rfl,rfl⟩
   by_cases hm1:decide (0≤pos x g1)=true
   ·go_wp2_with fail
    refine(Yx xa _ xcap x g2 _ rfl hxl sx).mono ?_
    rintro e w1 ⟨rfl,rfl⟩
    by_cases hm2:decide (0≤pos x g2)=true
    ·rw[if_pos ⟨hm1,hm2⟩]at HF
     have HF':Hid (Qw (ws.take (k+1)) x=Qw (ws.take k) x++ [(pos x g1,pos x g2)]):=HF
     clear HF
     obtain⟨va,vcap,rfl,-⟩:=hown.form
     have hbs:=hb.size
     have hrow:=fun k' h'=>(hown.lt k' h').1
     have hne:some b≠(Value.slice va (Qw (ws.take k) x).length vcap).ownBlock:=fun e=>by have:=hrow b e.symm;omega
     generalize hL:Qw (ws.take k) x=L at *
     have HL:Hid (Qw (ws.take k) x=L):=hL
     clear hL
     have hA:Below w1.heap.size w1 (w1.drew.alloc (Qht #[.int .i64 (pos x g1),.int .i64 (pos x g2)] 40)):=(Below.refl _ _).drew.alloc (Qhv _) _
     have hvA:(w1.drew.alloc (Qht #[.int .i64 (pos x g1),.int .i64 (pos x g2)] 40)).ownsRow w.heap.size 40 2 (.slice va L.length vcap) L.length (L.flatMap wc):=hown.below hA (Qhv _)
     have hnw:=Yj (w:=w1.drew) (pos x g1,pos x g2) 40
     have hone:∀u∈wc (pos x g1,pos x g2),u.oneCell'=true:=fun u hu=>by
      simp[wc]at hu
      rcases hu with rfl|rfl<;>rfl
     have hbs2:w.heap.size≤(w1.drew.alloc (Qht #[.int .i64 (pos x g1),.int .i64 (pos x g2)] 40)).heap.size:=Nat.le_trans hbs hA.size
     have HS:Hid (∀w2,(w1.drew.alloc (Qht #[.int .i64 (pos x g1),.int .i64 (pos x g2)] 40)).grownBy w2 (Value.slice va L.length vcap).ownBlock→(w2.cell? ⟨b,off+k*2,none⟩=some (.int .i64 g1)∧w2.cell? ⟨b,off+k*2+1,none⟩=some (.int .i64 g2))∧Below w.heap.size w w2):=fun w2 hg=>by
      have hb1:b<w1.heap.size:=by omega
      refine⟨⟨(hg.cell_far ⟨b,off+k*2,none⟩ (Qhx hb1 hA.size) hne).trans ((hA.cell (p:=⟨b,off+k*2,none⟩) hb1).trans d1),(hg.cell_far ⟨b,off+k*2+1,none⟩ (Qhx hb1 hA.size) hne).trans ((hA.cell (p:=⟨b,off+k*2+1,none⟩) hb1).trans d2)⟩,?_⟩
      exact(hb.trans (hA.mono hb.size)).trans (QL hg hbs2 hrow)
     have hl1:L.length+1≤maxLen:=by unfold maxLen;omega
     have hl2:(L.length+1)*16≤140737488355328:=by omega
     clear hA hne hrow
     go_wp2_with fail
     go_region_held3 (fun w'=>w'.cell? ⟨b,off+k*2,none⟩=some (.int .i64 g1)∧w'.cell? ⟨b,off+k*2+1,none⟩=some (.int .i64 g2)) (go_keep)
      (first
        |(go_at_call_of 36 (Qhw .i64 g1);refine(Yx xa _ xcap x g1 _ rfl hxl sxd).mono ?_;rintro e w1 ⟨rfl,rfl⟩)
        |(go_at_call_of 36 (Qhw .i64 g2);refine(Yx xa _ xcap x g2 _ rfl hxl sxd).mono ?_;rintro e w1 ⟨rfl,rfl⟩)
        |(refine step_append_lies _ rfl _ _ 25 rfl w.heap.size 40 i0 _ 2 16 ((Cut.under_eq 25).trans Tryz.underlying25) hi hz0 hz1 hz2 rfl (by decide) _ _ _ rfl hvA ⟨w1.heap.size,0,none⟩ 1 1 (wc (pos x g1,pos x g2)) rfl rfl hnw hone (by decide) hl1 hl2 hbs2 _ rfl ?_;intro g cap w2 hown2 hgrow hat hlt2;obtain⟨⟨hS1,hS2⟩,hb2⟩:=HS.out w2 hgrow))
     all_goals
      have hown3:Hid (Qe w2 w.heap.size (.slice (some ⟨g,0,none⟩) (L.length+1) cap) (Qw (ws.take (k+1)) x)):=by
       show Qe _ _ _ _
       rw[HF'.out]
       unfold Qe
       simpa using hown2
      clear hown2 hgrow hat hvA hnw hone HS
      go_wp2
      go_roundw
      case rel=>exact⟨k+1,by omega,by go_num,hown3.out,hb2⟩
      case measure=>simp[intOf];omega
    ·rw[if_neg (fun q=>hm2 q.2)]at HF
     have hm2':decide (0≤pos x g2)=false:=by simpa using hm2
     have HF':Hid (Qe w1 w.heap.size u5 (Qw (ws.take (k+1)) x)):=by
      show Qe _ _ _ _
      rw[HF];exact hown
     clear HF hm2
     go_wp2
     go_roundw
     case rel=>exact⟨k+1,by omega,by go_num,HF'.out,hb⟩
     case measure=>simp[intOf];omega
   ·rw[if_neg (fun q=>hm1 q.1)]at HF
    have hm1':decide (0≤pos x g1)=false:=by simpa using hm1
    have HF':Hid (Qe w1 w.heap.size u5 (Qw (ws.take (k+1)) x)):=by
     show Qe _ _ _ _
     rw[HF];exact hown
    clear HF hm1
    go_wp2
    go_roundw
    case rel=>exact⟨k+1,by omega,by go_num,HF'.out,hb⟩
    case measure=>simp[intOf];omega
  ·have hk2:k=ws.length:=by omega
   subst hk2
   rw[List.take_length]at hown
   go_wp2
   go_ret
   exact⟨_,rfl,hown,hb⟩
end
end Go.Proofs.YtcpnkpogebjieaaGreat
