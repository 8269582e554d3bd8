/- What the tellers send, all told, is what is due, each place once. Nothing of the machine. -/
import Derived.Test.YtcpnkpogebjieaaGreatS25Ya
import Derived.Test.YtcpnkpogebjieaaGreatS17Ca
open List renaming mem_cons_of_mem→QhR,mem_cons_self→QhS,map_cons→QhV,length_map→QhW,nil_append→QhX,eq_nil_of_length_eq_zero→QhY
open Go.Value renaming int→QhT
open Go.World renaming cell?→QhU
namespace Go.Proofs.YtcpnkpogebjieaaGreat
namespace Co
open Go.RowKit
def ZU (R:List Int)(wh:List Int)(x:Int×Int):Bool:=decide (x.1∈R)&&decide (wh.getD x.2.toNat 0<0)
def Zd (R wh:List Int):Nat→List (Int×Int)→List Int
 |_,[]=>[]
 |k,x::l=>if ZU R wh x then(k:Int)::Zd R wh (k+1) l else Zd R wh (k+1) l
def Jz (pv:Int)(wh:List Int):Nat→List (Int×Int)→List Int
 |_,[]=>[]
 |k,x::l=>if JA pv wh x then(k:Int)::Jz pv wh (k+1) l else Jz pv wh (k+1) l
theorem Qa5 (pv:Int)(wh:List Int):∀(l:List (Int×Int)) (k:Nat),Jy pv wh k l=(Jz pv wh k l).map (QhT .i64)
 | [],_=>rfl
 |x::l,k=>by
  simp only[Jy,Jz,Qa5 pv wh l (k+1)];split<;>simp
theorem KC (ks wh:List Int)(ws:List (Int×Int)):∀X:List Int,crs ks wh ws X=(X.filter fun p=>decide (ks.getD p.toNat 0=4)).map fun p=>(Jz p wh 0 ws).map (QhT .i64)
 | []=>rfl
 |p::X=>by
  simp only[crs,KC ks wh ws X,List.filter_cons];by_cases h:ks.getD p.toNat 0=4
  ·simp only[h,if_true,decide_true,QhV,Qa5]
  ·simp only[h,if_false,decide_false,Bool.false_eq_true]
theorem Qbb (wh:List Int)(k:Nat)(x:Int×Int)(l:List (Int×Int)):∀R:List Int,R.Nodup→
 ((R.map fun p=>Jz p wh k (x::l)).flatten).Perm ((if ZU R wh x then [(k:Int)]else [])++(R.map fun p=>Jz p wh (k+1) l).flatten)
 | [],_=>by simp[ZU]
 |p::R,hn=>by
  have hp:p∉R∧R.Nodup:=by simpa using hn
  have ih:=Qbb wh k x l R hp.2;simp only[QhV,List.flatten_cons,Jz];by_cases hd:wh.getD x.2.toNat 0<0
  ·by_cases he:x.1=p
   ·have h1:JA p wh x=true:=by unfold JA;rw[decide_eq_true he,decide_eq_true hd];rfl
    have h2:ZU (p::R) wh x=true:=by unfold ZU;rw[decide_eq_true hd,decide_eq_true (by rw[he];exact QhS)];rfl
    have h3:ZU R wh x=false:=by unfold ZU;rw[decide_eq_false (by rw[he];exact hp.1)];rfl
    rw[h3]at ih;simp only[h1,h2,if_true,Bool.false_eq_true,if_false,QhX,List.cons_append]at ih⊢;exact List.Perm.cons _ (List.Perm.append_left _ ih)
   ·have h1:JA p wh x=false:=by unfold JA;rw[decide_eq_false he];rfl
    have h2:ZU (p::R) wh x=ZU R wh x:=by unfold ZU;simp[he]
    rw[h1,h2];simp only[Bool.false_eq_true,if_false];refine(List.Perm.append_left _ ih).trans ?_;rw[←List.append_assoc,←List.append_assoc];exact List.Perm.append_right _ List.perm_append_comm
  ·have h1:JA p wh x=false:=by unfold JA;rw[decide_eq_false hd,Bool.and_false]
   have h2:∀R,ZU R wh x=false:=fun R=>by unfold ZU;rw[decide_eq_false hd,Bool.and_false]
   rw[h1,h2];rw[h2]at ih;simp only[Bool.false_eq_true,if_false,QhX]at ih⊢;exact List.Perm.append_left _ ih
theorem P1 (R wh:List Int)(hn:R.Nodup):∀(l:List (Int×Int)) (k:Nat),((R.map fun p=>Jz p wh k l).flatten).Perm (Zd R wh k l)
 | [],k=>by
   have:(R.map fun p=>Jz p wh k []).flatten=[]:=by
    rw[List.flatten_eq_nil_iff];intro x hx;obtain⟨p,_,rfl⟩:=List.mem_map.1 hx;rfl
   rw[this];exact List.Perm.refl _
 |x::l,k=>by
  refine(Qbb wh k x l R hn).trans ?_;have ih:=P1 R wh hn l (k+1);simp only[Zd];by_cases h:ZU R wh x
  ·simp only[h,if_true,List.singleton_append];exact List.Perm.cons _ ih
  ·simp only[h,Bool.false_eq_true,if_false,QhX];exact ih
theorem Vs (R wh:List Int):∀(l:List (Int×Int)) (k:Nat),(Zd R wh k l).length≤l.length
 | [],_=>by simp[Zd]
 |x::l,k=>by
  have:=Vs R wh l (k+1);simp only[Zd];split<;>simp<;>omega
theorem OG (R wh:List Int):∀(l:List (Int×Int)) (k:Nat),∀z∈Zd R wh k l,(k:Int)≤z
 | [],_,z,hz=>by simp[Zd]at hz
 |x::l,k,z,hz=>by
  have ih:=OG R wh l (k+1);simp only[Zd]at hz;split at hz
  ·rcases List.mem_cons.1 hz with rfl|hz
   ·omega
   ·have:=ih z hz;omega
  ·have:=ih z hz;omega
theorem OH (R wh:List Int):∀(l:List (Int×Int)) (k:Nat),(Zd R wh k l).Pairwise (· ≤·)
 | [],_=>by simp[Zd]
 |x::l,k=>by
  have ih:=OH R wh l (k+1);simp only[Zd];split
  ·refine List.pairwise_cons.2 ⟨fun z hz=>?_,ih⟩;have:=OG R wh l (k+1) z hz;omega
  ·exact ih
theorem Qbc (zs:List Int):(srt zs).Perm zs:=List.mergeSort_perm zs _
theorem QgT (zs:List Int):(srt zs).Pairwise (· ≤·):=by
 have:=List.pairwise_mergeSort (le:=fun x y:Int=>decide (x≤y)) (fun a b c h1 h2=>by simp only[decide_eq_true_eq]at *;omega) (fun a b=>by simp only[Bool.or_eq_true,decide_eq_true_eq];omega) zs;exact this.imp fun h=>by simpa using h
theorem QgS {zs ys:List Int}(h:zs.Perm ys)(hs:ys.Pairwise (· ≤·)):srt zs=ys:=
 List.Perm.eq_of_pairwise (fun _ _ _ _ h1 h2=>Int.le_antisymm h1 h2) (QgT zs) hs ((Qbc zs).trans h)
theorem Oa {ks wh:List Int}{ws:List (Int×Int)}{X:List Int}(hn:X.Nodup){b:List Value}(hb:b.Perm (crs ks wh ws X).flatten):
 ∃zs:List Int,b=zs.map (QhT .i64)∧srt zs=Zd (X.filter fun p=>decide (ks.getD p.toNat 0=4)) wh 0 ws:=by
 have hf:(crs ks wh ws X).flatten=(((X.filter fun p=>decide (ks.getD p.toNat 0=4)).map fun p=>Jz p wh 0 ws).flatten).map (QhT .i64):=by
  rw[KC,List.map_flatten,List.map_map];rfl
 rw[hf]at hb
 have hi:∀v∈b,∃i,v=QhT .i64 i:=fun v hv=>by
  obtain⟨i,_,rfl⟩:=List.mem_map.1 (hb.mem_iff.1 hv);exact⟨i,rfl⟩
 refine⟨b.map intOf,?_,QgS ?_ (OH _ _ _ _)⟩
 ·rw[List.map_map]
  conv=>lhs;rw[←List.map_id b]
  refine List.map_congr_left fun v hv=>?_;obtain⟨i,rfl⟩:=hi v hv;rfl
 ·have h1:=hb.map intOf;rw[List.map_map]at h1
  have h2:((((X.filter fun p=>decide (ks.getD p.toNat 0=4)).map fun p=>Jz p wh 0 ws).flatten).map (intOf∘QhT .i64))=((X.filter fun p=>decide (ks.getD p.toNat 0=4)).map fun p=>Jz p wh 0 ws).flatten:=by
   conv=>rhs;rw[←List.map_id (((X.filter fun p=>decide (ks.getD p.toNat 0=4)).map fun p=>Jz p wh 0 ws).flatten)]
   rfl
  rw[h2]at h1;exact h1.trans (P1 _ wh (hn.filter _) ws 0)
theorem Oo {ks wh:List Int}{ws:List (Int×Int)}{X:List Int}(hn:X.Nodup):(crs ks wh ws X).flatten.length≤ws.length:=by
 obtain⟨zs,h1,h2⟩:=Oa (ks:=ks) (wh:=wh) (ws:=ws) hn (List.Perm.refl (crs ks wh ws X).flatten);rw[h1,QhW,←(Qbc zs).length_eq,h2];exact Vs _ _ _ _
theorem QcM {ks wh:List Int}{ws:List (Int×Int)}{X:List Int}:(crs ks wh ws X).length≤X.length:=by
 rw[KC,QhW];exact List.length_filter_le _ _
end Co
namespace Co
open Go.Conc Go.ConcN Go.RowKit Go.Conc.Lib
open Go.ConcR (WgAt)
theorem QgF {X:Nat→Bool}{w:World}{b o:Nat}{v:Value}(h:(emW X w).cell? ⟨b,o,none⟩=some v):X b=false∧w.cell? ⟨b,o,none⟩=some v:=by
 have hx:X b=false:=by
  cases hx:X b with
  |false=>rfl
  |true=>
   unfold QhU at h;rw[Za]at h
   cases ho:w.heap[b]? with
   |none=>simp[ho]at h
   |some ob=>cases ob<;>simp[ho,emO,hx]at h
 refine⟨hx,?_⟩;rw[←h];exact(cell_of_block (Jj hx) o).symm
def QD (h:Hp):List Int:=Zd ((reachP h.p).filter fun p=>decide ((h.os.map (·.k)).getD p.toNat 0=4)) (whs (reachP h.p) h.os.length) 0 h.ws
structure PU (h:Hp):Prop where
 s:ZV h
 t:∀i (hi:i<h.os.length),h.os[i].t.size≤maxLen
 c:∀(i:Nat) (hi:i<h.os.length),h.os[i].r.length≤h.os[i].rcap
 n:h.os.length≤60
 p:Qr h.os.length (reachP h.p)
 m:h.ws.length≤20
 w:∀k (hk:k<h.ws.length),0≤h.ws[k].2∧h.ws[k].2<(h.os.length:Int)
section
variable {X:Nat→Bool} {SB:Nat→Prop} {gs:Array Goroutine} {w:World} {t:Trace} {c:Frame} {cs:List Frame}
theorem QdV (h:Hp)(hB:Bt X SB gs w t)(hS:Sn X w)(hh:Qj (emW X w) h)(hd:PU h)(h0:gs[0]? =some (G (Frame.enter Tryz.prog 81 #[h.v] .normal) (c::cs)))(sl:Option (Nat×Nat)):
 ∃N gs' w' sl' t' X' SB' v,runNT Tryz.prog N (crowd gs w sl) t=(.next (crowd gs' w' sl'),t')∧gs'[0]? =some (G (c.finish v) cs)∧Bt X' SB' gs' w' t'∧Sn X' w'∧(∀b,b<w.heap.size→w'.heap[b]? =w.heap[b]? ∧X' b=X b)∧w.heap.size≤w'.heap.size∧
  Qa w' w.heap.size v (QD h)∧(∀b,v.ownBlock=some b→X' b=false)∧OO w' w:=by
 letI:Go.ConcR.Payload:=⟨3⟩
 obtain⟨n0,gs0,a0,wm,sl0,t0,hr0,hsz0,h00,⟨T0,bh,bw,bt,Ch,gW,xa,xcap,rfl,z0,z1,z3,z4,z5,hF0⟩,hB0⟩:=J3 hB h0 (QdR (Ch0:=0) h w hS hh hd.s hd.t hd.c hd.n hd.p) sl;obtain⟨Wg,hWg⟩:∃Wg,Wg=wm.heap.size:=⟨_,rfl⟩
 have hBm:Bt (fun r=>X r||r ==Wg) (fun b=>SB b∨b=Wg) gs0 wm t0:=by
  obtain⟨B,hP⟩:=hB0.past;refine⟨hB0.lv,⟨B,hP.clean,fun i a hi hm=>(hP.known i a hi hm).imp id fun⟨⟨x,h1,h2⟩,h3⟩=>⟨⟨x,h1,.inl h2⟩,h3⟩,hP.over,hP.hears,hP.seen⟩,⟨fun i op x hi hx hs=>?_,hB0.tri.seen,hB0.tri.gs⟩,fun b hb=>?_⟩
  ·obtain⟨y,h1,h2|h2⟩:=hs
   ·exact hB0.tri.quiet i op x hi hx ⟨y,h1,h2⟩
   ·have:=(hB0.tri.seen i x (by rw[touchAt_of hi];exact hx)).1;rw[h1]at this;have:y.block<wm.heap.size:=this;omega
  ·rcases hb with hb|hb
   ·rw[hB.sbx b hb];rfl
   ·simp[hb]
 obtain⟨n1,gs1,a1,w1,sl1,t1,hr1,hsz1,h01,⟨T,rfl,hT,hF⟩,hB1⟩:=J3 hBm h00 (QdS (X':=fun r=>X r||r ==Wg) (Ch0:=0) z0 z1 z3 z4 z5 hF0) sl0;rw[←hWg]at hT hF;clear hF0 hBm z0 z1 z3 z4 z5 h00;unfold YV at hF;generalize hRX:reachP h.p=RX at hT hF;have hpl:Qr h.os.length RX:=hRX▸hd.p;have hnX:RX.length≤60:=by have:=hpl.len;have:=hd.n;omega
 have hnw:=hd.m;have hnh:=hd.n;have hbig:=hF.kb.big;have q0:=hF.kb.bl _ QhS;have q1:=hF.kb.bl _ (QhR _ QhS);have q2:=hF.kb.bl _ (QhR _ (QhR _ QhS));have q3:=hF.kb.bl _ (QhR _ (QhR _ (QhR _ QhS)));have q4:=hF.kb.bl _ (QhR _ (QhR _ (QhR _ (QhR _ QhS))));have q5:=hF.kb.bl _ (QhR _ (QhR _ (QhR _ (QhR _ (QhR _ QhS)))));have hnd:=hF.kb.nd;have hnb:=hF.nb;simp only[QhV,List.map_nil,List.nodup_cons,List.mem_cons,List.not_mem_nil,or_false,not_or]at hnd q0 q1 q2 q3 q4 q5;obtain⟨⟨d01,d02,d03,d04,d05⟩,⟨d12,d13,d14,d15⟩,⟨d23,d24,d25⟩,_⟩:=hnd;have l0:=(Array.getElem?_eq_some_iff.1 q0.1).1;have l1:=(Array.getElem?_eq_some_iff.1 q1.1).1;have l2:=(Array.getElem?_eq_some_iff.1 q2.1).1;have l3:=(Array.getElem?_eq_some_iff.1 q3.1).1;have l4:=(Array.getElem?_eq_some_iff.1 q4.1).1;have l5:=(Array.getElem?_eq_some_iff.1 q5.1).1;have xo:=hF.xo;have sbX:∀b,SB b→X b=true:=hB.sbx;obtain⟨S,hSd⟩:∃S:Ph,S=⟨Tryz.prog,Tryz.link.tWg,Wg,Ch,w1.heap.size,gs1.size,t1.size,fun b=>SB b∨b=Wg⟩:=⟨_,rfl⟩;have eP:S.P=Tryz.prog:=by rw[hSd]
 have ety:S.ty=Tryz.link.tWg:=by rw[hSd]
 have eWg:S.Wg=Wg:=by rw[hSd]
 have eCh:S.Ch=Ch:=by rw[hSd]
 have eLow:S.Low=w1.heap.size:=by rw[hSd]
 have em0:S.m0=gs1.size:=by rw[hSd]
 have en0:S.n0=t1.size:=by rw[hSd]
 have eSB:∀b,S.SB b↔(SB b∨b=Wg):=fun b=>by rw[hSd]
 clear hSd;have hpos:0<gs1.size:=(Array.getElem?_eq_some_iff.1 h01).1
 have hG:Geo S:=⟨(eSB _).2 (.inr eWg),fun b hb=>by
  rw[eLow];rcases(eSB b).1 hb with h1|h1
  ·exact hF.sn.xok.lt b (sbX b h1)
  ·rw[h1];exact l0,by rw[eCh,eLow];exact l2,by rw[eCh,eWg];exact fun e=>d02 e.symm,by rw[em0];exact hpos⟩
 have noSB:∀b,X b=false→b≠Wg→¬S.SB b:=fun b h1 h2 h3=>by
  rcases(eSB b).1 h3 with h4|h4
  ·rw[sbX b h4]at h1;cases h1
  ·exact h2 h4
 have okb:∀b,b<w1.heap.size→b≠Wg→b≠Ch→X b=false→Okb S b:=fun b h1 h2 h3 h4=>⟨by rw[eLow];exact h1,by rw[eWg];exact h2,by rw[eCh];exact h3,noSB b h4 h2⟩
 have hold:∀b o v,(emW X w).cell? ⟨b,o,none⟩=some v→b<w.heap.size→Okb S b∧w1.cell? ⟨b,o,none⟩=some v:=fun b o v hc hb=>by
  obtain⟨h1,h2⟩:=QgF hc;exact⟨okb b (by omega) (by omega) (by omega) h1,(cell_of_block (hF.kb.old b hb) o).trans h2⟩
 have hwl:=Yd RX h.os.length
 have hDat:Dat S w1 bh bw bt h.wa h.wcap h.ws gW (whs RX h.os.length):=by
  refine⟨by simp[QhU,q5.1],by rw[hwl];simp[QhU,q3.1],by rw[eCh];simp[QhU,q1.1],okb _ l5 (Ne.symm d05) (Ne.symm d25) (xo _ q5.2),okb _ l3 (Ne.symm d03) (Ne.symm d23) (xo _ q3.2),okb _ l1 (Ne.symm d01) d12 (xo _ q1.2),okb _ l4 (Ne.symm d04) (Ne.symm d24) (xo _ q4.2),
   fun k hk=>?_,fun k hk=>?_,fun k hk=>by rw[hwl];exact hd.w k hk,by rw[eLow];exact Nat.le_refl _,by omega,by rw[hwl];omega⟩
  ·obtain⟨b,off,e1,hb,hc⟩:=hh.sw (by omega);rw[QF]at hb;obtain⟨c1,c2⟩:=hc k hk;exact⟨b,off,e1,(hold _ _ _ c1 hb).1,(hold _ _ _ c1 hb).2,(hold _ _ _ c2 hb).2⟩
  ·simp[QhU,q4.1,hk]
 have hrowlt:=hF.ow.lt
 have hDatC:Vd S w1 bh xa RX h.oa h.ocap (h.os.map (·.k)):=by
  refine⟨hDat.ohb,by simp[QhU,q5.1],fun i hi=>?_,fun i hi=>?_,fun i hi=>?_,by rw[eLow];exact Nat.le_refl _,by omega,by simp;omega⟩
  ·obtain⟨a,cp,e1,hseg,_⟩:=hF.ow.form
   cases e1
   obtain⟨b,off,e2,_,hc⟩:=hseg.get hi;subst e2;have hb:=hrowlt b rfl;refine⟨b,off,rfl,okb b hb.2 (fun e=>hnb _ QhS (by rw[←e];rfl)) (fun e=>hnb _ (QhR _ (QhR _ QhS)) (by rw[←e];rfl)) (xo _ hb.1),hc⟩
  ·have hi':i<h.os.length:=by simpa using hi
   obtain⟨b,off,e1,hb,hc,_⟩:=hh.so.get hi';rw[QF]at hb;refine⟨b,off,e1,(hold _ _ _ hc hb).1,?_⟩;rw[(hold _ _ _ hc hb).2];simp
  ·have:=hpl.rng _ (List.getElem_mem hi);simpa using this
 obtain⟨q1',hL1⟩:=hB1.lv;obtain⟨B1,hP1⟩:=hB1.past;have hShS:∀l,ShS S l↔ShB (fun b=>SB b∨b=Wg) l:=fun l=>⟨fun⟨a,h1,h2⟩=>⟨a,h1,(eSB _).1 h2⟩,fun⟨a,h1,h2⟩=>⟨a,h1,(eSB _).2 h2⟩⟩;have hquiet:Quiet (ShS S) t1:=fun i op x hi hx hs=>hB1.tri.quiet i op x hi hx ((hShS _).1 hs);obtain⟨n2,gs2,w2,sl2,t2,T2,q2',B2,buf,s2,r2,tm2,hr2,h02,hT2,hL2,hP2,hQ2,hse2,hgs2,hlow2,hbig2,hwg2,hch2,hperm2,hoo2⟩:=QdT (K1:=[]) (cs:=c::cs) (cap:=h.ws.length) (sl:=sl1) eP ety hG (by rw[eCh];exact noSB Ch (xo _ q2.2) (Ne.symm d02)) hDat hDatC (by rw[eWg];exact hT) h01 em0.symm hL1 hP1 (fun l hl=>(hShS l).2 hl) hquiet hB1.tri.seen (fun i op hi=>by rw[em0];exact hB1.tri.gs i op hi) en0 eLow
  (by rw[eWg,ety];exact q0.1) (by rw[eCh];exact q2.1) (Oo hpl.nd) (by have:=QcM (ks:=h.os.map (·.k)) (wh:=whs RX h.os.length) (ws:=h.ws) (X:=RX);omega)
 rw[eLow,eWg,eCh]at hlow2;rw[eLow]at hbig2;rw[eCh]at hch2;obtain⟨zs,hbuf,hzs⟩:=Oa hpl.nd hperm2
 have hzl:zs.length<1000000:=by
  have h1:=hperm2.length_eq;have h2:=Oo (ks:=h.os.map (·.k)) (wh:=whs RX h.os.length) (ws:=h.ws) hpl.nd;rw[hbuf,QhW]at h1;omega
 have eSh:ShS S=ShB (fun b=>SB b∨b=Wg):=funext fun l=>propext (hShS l);rw[eSh]at hP2 hQ2
 have hsbx1:∀b,(SB b∨b=Wg)→(X b||b ==Wg)=true:=fun b hb=>by
  rcases hb with hb|hb
  ·rw[sbX b hb];rfl
  ·simp[hb]
 have hB2:Bt (fun r=>X r||r ==Wg) (fun b=>SB b∨b=Wg) gs2 w2 t2:=⟨⟨_,hL2⟩,⟨_,hP2⟩,⟨hQ2,hse2,hgs2⟩,hsbx1⟩;have x1:∀b,w.heap.size≤b→b≠Wg→(X b||b ==Wg)=false:=fun b h1 h2=>by rw[xo b h1];simpa using h2
 obtain⟨n3,gs3,a3,w3,sl3,t3,hr3,hsz3,h03,⟨T3,hT3,T4,v,hT4,hv4,rfl,hio⟩,hB3⟩:=J3 hB2 h02 (QdW (X:=fun r=>X r||r ==Wg) (wJ:=w2) (Ch:=Ch) (cap:=h.ws.length) (buf:=buf) (cs:=c::cs) hT2
  ⟨fun _ _ _=>rfl,rfl,⟨s2,r2,tm2,hch2⟩,by rw[cell_of_block (hlow2 bt l1 (Ne.symm d01) d12) 0];simp[QhU,q1.1],x1 bt q1.2 (Ne.symm d01),by omega,.refl _⟩ (by omega) (fun b hb=>x1 b (by omega) (by omega)) (fun u hu=>by rw[hbuf]at hu;obtain⟨i,_,rfl⟩:=List.mem_map.1 hu;exact⟨i,rfl⟩) (by rw[hbuf,QhW];exact hzl) d12) sl2
 rw[hbuf]at hio;have hio3:=hio.big;have hv3:=hio.row.lt
 obtain⟨X2,hX2⟩:∃X2:Nat→Bool,∀r,X2 r=true↔(X r=true∨r=Wg∨(w1.heap.size≤r∧v.ownBlock≠some r∧∃o,w3.heap[r]? =some o∧Xob o)):=by
  refine⟨fun r=>@decide _ (Classical.propDecidable (X r=true∨r=Wg∨(w1.heap.size≤r∧v.ownBlock≠some r∧∃o,w3.heap[r]? =some o∧Xob o))),fun r=>?_⟩;exact @decide_eq_true_iff _ (Classical.propDecidable _)
 have low31:∀b,b<w1.heap.size→b≠Wg→b≠Ch→w3.heap[b]? =w1.heap[b]? :=fun b h1 h2 h3=>(hio.low b (by omega) h3).trans (hlow2 b h1 h2 h3);have oldw:∀b,b<w.heap.size→w3.heap[b]? =w.heap[b]? :=fun b hb=>(low31 b (by omega) (by omega) (by omega)).trans (hF.kb.old b hb)
 have x2f:∀r,X2 r=false→X r=false∧r≠Wg∧¬(w1.heap.size≤r∧v.ownBlock≠some r∧∃o,w3.heap[r]? =some o∧Xob o):=fun r hr=>by
  have hn:¬X2 r=true:=by rw[hr];simp
  rw[hX2]at hn;simp only[not_or]at hn;exact⟨by simpa using hn.1,hn.2.1,hn.2.2⟩
 have hS3:Sn X2 w3:=by
  refine⟨⟨fun r hr=>?_,fun r o hr ho=>?_⟩,fun r o ho=>?_⟩
  ·rcases(hX2 r).1 hr with h1|h1|⟨_,_,o,h1,_⟩
   ·have:=hS.xok.lt r h1;omega
   ·omega
   ·exact(Array.getElem?_eq_some_iff.1 h1).1
  ·rcases(hX2 r).1 hr with h1|h1|⟨_,_,o',h1,h2⟩
   ·have hlt:=hS.xok.lt r h1;rw[oldw r hlt]at ho;exact hS.xok.ob r o h1 ho
   ·subst h1;rw[hio.low _ (by omega) (Ne.symm (Ne.symm d02))]at ho;have hw:=hwg2;rw[eWg,ety]at hw;rw[show w2.heap[r]? =_ from hw]at ho
    cases ho
    trivial
   ·rw[h1]at ho;cases ho;exact h2
  ·cases hr:X2 r with
   |true=>
    rw[Za]at ho
    cases h1:w3.heap[r]? with
    |none=>rw[h1]at ho;cases ho
    |some ob=>
     rw[h1]at ho;simp only[Option.map_some,Option.some.injEq,emO,hr,if_true]at ho
     have hxob:Xob ob:=by
      rcases(hX2 r).1 hr with h2|h2|⟨_,_,o',h2,h3⟩
      ·rw[oldw r (hS.xok.lt r h2)]at h1;exact hS.xok.ob r ob h2 h1
      ·subst h2;rw[hio.low _ (by omega) (Ne.symm (Ne.symm d02))]at h1;have hw:=hwg2;rw[eWg,ety]at hw;rw[show w2.heap[r]? =_ from hw]at h1
       cases h1
       trivial
      ·rw[h1]at h2;cases h2;exact h3
     cases ob<;>simp[Xob]at hxob<;>simp at ho<;>subst ho<;>trivial
   |false=>
    rw[Jj hr]at ho;obtain⟨f1,f2,f3⟩:=x2f r hr;rcases Nat.lt_or_ge r w1.heap.size with hlt|hge
    ·by_cases hc:r=Ch
     ·subst hc;obtain⟨b',s',r',tm',_,hcc⟩:=hio.ch;rw[hcc]at ho
      cases ho
      trivial
     ·rw[low31 r hlt f2 hc]at ho;exact hF.sn.wok r o (by rw[Jj f1];exact ho)
    ·by_cases ho':v.ownBlock=some r
     ·obtain⟨_,h2|⟨g,cp,cur,h2,h3,h4,h5⟩⟩:=hio.row
      ·rw[h2.1]at ho';cases ho'
      ·rw[h2]at ho'
       cases ho'
       rw[h4]at ho
       cases ho
       trivial
     ·have hx:¬Xob o:=fun hx=>f3 ⟨hge,ho',o,ho,hx⟩
      cases o<;>first|trivial|exact absurd trivial hx
 have hxv:∀b,v.ownBlock=some b→X2 b=false:=fun b hb=>by
  cases hx:X2 b with
  |false=>rfl
  |true=>
   have hb':=hv3 b hb;rcases(hX2 b).1 hx with h1|h1|⟨_,h1,_⟩
   ·have:=hS.xok.lt b h1;omega
   ·omega
   ·exact absurd hb h1
 have hB3':Bt X2 (fun b=>SB b∨b=Wg) gs3 w3 t3:=⟨hB3.lv,hB3.past,hB3.tri,fun b hb=>by
  rw[hX2];rcases hb with hb|hb
  ·exact .inl (sbX b hb)
  ·exact .inr (.inl hb)⟩
 obtain⟨n4,gs4,a4,w4,sl4,t4,hr4,hsz4,h04,⟨v',rfl,hRB,hxv'⟩,hB4⟩:=J3 hB3' h03 (QdP (X:=X2) (c:=c) (cs:=cs) hzl hT3 hT4 hv4 hio hS3 hxv) sl3;refine⟨n0+(n1+(n2+(n3+n4))),gs4,w4,sl4,t4,X2,_,v',?_,h04,hB4,hRB.sn,fun b hb=>⟨?_,?_⟩,?_,?_,hxv',hRB.oo.trans (hoo2.trans hF.kb.oo)⟩
 ·rw[runNT_add,hr0];simp only;rw[runNT_add,hr1];simp only;rw[runNT_add,hr2];simp only;rw[runNT_add,hr3];exact hr4
 ·rw[hRB.low b (by omega) (by omega),hlow2 b (by omega) (by omega) (by omega)];exact hF.kb.old b hb
 ·cases hx:X b with
  |true=>rw[hX2];exact .inl hx
  |false=>
   cases hx2:X2 b with
   |false=>rfl
   |true=>
    rcases(hX2 b).1 hx2 with h1|h1|⟨h1,_⟩
    ·rw[hx]at h1;cases h1
    ·omega
    ·omega
 ·have:=hRB.big;omega
 ·have hrow:=hRB.row;rw[hzs]at hrow;unfold QD;rw[hRX];exact Ys hrow (by omega)
end
end Co
namespace Co
open Go.Conc Go.ConcN Go.RowKit Go.Conc.Lib
section
variable {X:Nat→Bool} {Ch:Nat} {Fin:Goroutine→World→Prop} {cs:List Frame}
theorem QgH {w1 w1':World}(hE:Em X w1 w1')(hX:XOk X w1)(hW:WOk (LOk Tryz.progTables Cut.keep) w1'):Sn X w1:=
 ⟨hX,fun r o ho=>hW r o (by rw[hE.heap r,←Za];exact ho)⟩
theorem Qbe {fr:Frame}{w:World}(hs:Sn X w)(hf:FOk Tryz.progTables Cut.keep X fr)(hmode:fr.mode=.run∨fr.mode=.returning){R:Frame→World→Prop}
 (H:∀t d,∃fr1 w1',Steps Cut.prog (lone fr [c0] {emW X w with tape:=t,drawn:=d}) (lone fr1 [c0] w1')∧(fr1.mode=.run∨fr1.mode=.returning)∧R fr1 w1')
 (K:∀fr1 w1 w1',Em X w1 w1'→Sn X w1→QB X w w1→FOk Tryz.progTables Cut.keep X fr1→R fr1 w1'→Qv Tryz.prog X Ch Fin (G fr1 cs) w1):Qv Tryz.prog X Ch Fin (G fr cs) w:=by
 have h1:=QbM (Fin:=fun g w1=>∃fr1 w1',g=G fr1 cs∧Em X w1 w1'∧Sn X w1∧QB X w w1∧FOk Tryz.progTables Cut.keep X fr1∧R fr1 w1') (mid:=[]) (cs0:=cs) Cut.cut hf hmode (fun x hx=>by cases hx) hs.xok hs.wok (fun t d=>by
  obtain⟨fr1,w1',h1,h2,h3⟩:=H t d
  exact⟨fr1,[],w1',h1,h2,fun w1 k1 _ k3 k4 k5 k6 _=>⟨fr1,w1',rfl,k3,QgH k3 k4 k5,k6,k1,h3⟩⟩)
 refine PK h1 ?_;rintro g w1 ⟨fr1,w1',rfl,k1,k2,k3,k4,k5⟩;exact K fr1 w1 w1' k1 k2 k3 k4 k5
theorem KA {b:Frame}{a:Act}{c:Code}{k:List Item}{w:World}(hs:Sn X w)(hf:FOk Tryz.progTables Cut.keep X (b.at a (.code c::k))){R Rr:Act→World→Prop}
 (H:∀t d,c.wp Cut.prog (JQ R Rr) a {emW X w with tape:=t,drawn:=d})
 (K:∀a' w1 w1',Em X w1 w1'→Sn X w1→QB X w w1→FOk Tryz.progTables Cut.keep X (b.at a' k)→R a' w1'→Qv Tryz.prog X Ch Fin (G (b.at a' k) cs) w1)
 (Kr:∀a' todo w1 w1',Em X w1 w1'→Sn X w1→QB X w w1→FOk Tryz.progTables Cut.keep X {b.at a' todo with mode:=.returning}→Rr a' w1'→Qv Tryz.prog X Ch Fin (G {b.at a' todo with mode:=.returning} cs) w1):
 Qv Tryz.prog X Ch Fin (G (b.at a (.code c::k)) cs) w:=by
 refine Qbe hs hf (.inl rfl) (R:=fun fr1 w1'=>(∃a',fr1=b.at a' k∧R a' w1')∨∃a' todo,fr1={b.at a' todo with mode:=.returning}∧Rr a' w1') (fun t d=>?_) ?_
 ·obtain⟨e,a',w',hq,ha⟩:=H t d b k [c0]
  cases e with
  |normal=>exact⟨_,w',ha,.inl rfl,.inl ⟨a',rfl,hq⟩⟩
  |ret=>
   obtain⟨todo,hst⟩:=ha;exact⟨_,w',hst,.inr rfl,.inr ⟨a',todo,rfl,hq⟩⟩
  |_=>exact hq.elim
 ·rintro fr1 w1 w1' hE hS hK hF (⟨a',rfl,hR⟩|⟨a',todo,rfl,hR⟩)
  ·exact K a' w1 w1' hE hS hK hF hR
  ·exact Kr a' todo w1 w1' hE hS hK hF hR
theorem K9 {fr c:Frame}{w w':World}{v:Value}(hs:Sn X w)(hf:FOk Tryz.progTables Cut.keep X fr)(hm:fr.mode=.returning)(hd:fr.defers=[]){fn:Func}(hfn:Tryz.prog.funcs[fr.fn]? =some fn)(hE:Em X w w')(hres:(results fn fr.tmps).run Cut.prog w'=.ok v w')
 (K:∀d,Qv Tryz.prog X Ch Fin (G (c.finish v) cs) (w.at d)):Qv Tryz.prog X Ch Fin (G fr (c::cs)) w:=by
 have hW:WOk (LOk Tryz.progTables Cut.keep) w':=fun r o ho=>hs.wok r o (by rw[Za,←hE.heap r];exact ho)
 have key:∀d,∃es,stepG Tryz.prog true (G fr (c::cs)) (w.at d)=.go (G (c.finish v) cs) (w.at d) es∧w.heap.size≤(w.at d).heap.size∧∀B,(w.at d).heap.size≤B→∀e∈es,Ev X B e:=by
  intro d;have hrd:=QaK fn fr.tmps (PP Tryz.progTables Tryz.funcs) (w.at d);obtain⟨ok,_⟩:=(KF (F:=Tryz.funcs) (F':=Cut.funcs) (S:=Cut.keep) (X:=X) fn fr.tmps).tr (w.at d) w' ⟨hE.heap,hE.size,hE.os,hE.out⟩ ⟨hs.xok.lt,hs.xok.ob⟩ hW (fun k hk=>by rw[hrd]at hk;omega);obtain⟨w2,e1,_,_,_,_,_,e7⟩:=ok v w' hres;rw[e1]at hrd;have e2:w2=w.at d:=hrd;subst e2;have e1':(results fn fr.tmps).run Tryz.prog (w.at d)=.ok v (w.at d):=e1;refine⟨seen Tryz.prog fr.fn ((results fn fr.tmps).events Tryz.prog (w.at d) #[])++ #[],?_,Nat.le_refl _,fun B hB e he=>?_⟩
  ·have e3:stepG Tryz.prog true (G fr (c::cs)) (w.at d)=unwind Tryz.prog true fr (c::cs) none (w.at d):=by simp[stepG,G,hm]
   rw[e3];unfold unwind;rw[hd,hm];simp only[hfn,Sem.runT_eq,e1',doReturn,hf.kind,GStep.after];rfl
  ·have he':e∈seen Tryz.prog fr.fn ((results fn fr.tmps).events Tryz.prog (w.at d) #[]):=by simpa using he
   exact e7 B hB #[] (fun e he=>by simp at he) e (mem_seen he')
 refine .step rfl (fun d=>?_) (fun d g' w1 es hgo=>?_)
 ·obtain⟨es,h1,h2,h3⟩:=key d;exact⟨_,_,es,h1,h2,h3⟩
 ·obtain⟨es',h1,_⟩:=key d;rw[h1]at hgo
  cases hgo
  exact K d
end
end Co
section
open Go.RowKit
theorem Qgl {P:Program}(w:World)(base:Nat)(t ty e:TypeId)(i:TypeInfo)(z:Value)(size bytes:Nat)(ht:P.underlying t=some (.slice e))(hi:P.info? e=some i)(hz:i.zero=some z)
 (hsize:i.size=size)(hby:i.bytes=bytes)(hzs:z.cells.size=size)(hsz:0<size)
 (v:Value)(n:Nat)(xs:List Value)(hown:w.ownsRow base e size v n xs)
 (src:Option Addr)(m c:Nat)(news:List Value)(hl:news.length=m*size)(hsrc:0<m→∃ad,src=some ad∧∀j u,news[j]? =some u→w.cell? (ad.add j)=some u)(h1:∀u∈news,u.oneCell'=true)
 (h63:n+m≤maxLen)(hbytes:(n+m)*bytes≤140737488355328)(hbase:base≤w.heap.size):
 ∃v' w',(Builtin.append_ #[t,t] ty #[v,.slice src m c]).run P w=.ok v' w'∧w'.ownsRow base e size v' (n+m) (xs++news)∧w.grownBy w' v.ownBlock∧
  (v'.ownBlock=v.ownBlock∨v'.ownBlock=some w.heap.size):=by
 cases src with
 |some ad=>
  have hnews:∀j u,news[j]? =some u→w.cell? (ad.add j)=some u:=fun j u hj=>by
   rcases Nat.eq_zero_or_pos m with h0|h0
   ·have:news=[]:=QhY (by rw[hl,h0];simp);rw[this]at hj;simp at hj
   ·obtain⟨ad',e1,e2⟩:=hsrc h0
    cases e1
    exact e2 j u hj
  obtain⟨v',w',hr,h2,h3,_,h5⟩:=run_append_own_at (P:=P) w base t ty e i z size bytes ht hi hz hsize hby hzs hsz v n xs hown ad m c news hl hnews h1 h63 hbytes hbase;exact⟨v',w',hr,h2,h3,h5⟩
 |none=>
  have h0:m=0:=by
   rcases Nat.eq_zero_or_pos m with h0|h0
   ·exact h0
   ·obtain⟨ad',e1,_⟩:=hsrc h0
    cases e1
  subst h0;have hn:news=[]:=QhY (by simpa using hl);subst hn;refine⟨v,w,?_,by simpa using hown,US _ _,Or.inl rfl⟩;rcases hown.2 with⟨rfl,rfl⟩|⟨g,cap,cur,rfl,hbg,hg,hnc,hcm,hcs,htake⟩
  ·simp[Builtin.append_,run_underlying ht,sizeOf,typeInfo,hi,Builtin.lenOf,Builtin.firstCells]
  ·simp[Builtin.append_,run_underlying ht,sizeOf,typeInfo,hi,Builtin.lenOf,Builtin.firstCells,hnc,storeCells]
theorem QbU {P:Program}(w:World){o:Oper}{a:Act}{K:Act→World→Prop}{Q:Exit→Act→World→Prop}(s x:Operand)(t:TypeId)
 (ho:o.op=.call {callee:=.builtin .append,args:=#[s,x],argTypes:=#[t,t]})
 (base:Nat)(e:TypeId)(i:TypeInfo)(z:Value)(size bytes:Nat)(ht:P.underlying t=some (.slice e))(hi:P.info? e=some i)(hz:i.zero=some z)
 (hsize:i.size=size)(hby:i.bytes=bytes)(hzs:z.cells.size=size)(hsz:0<size)
 (v:Value)(n:Nat)(xs:List Value)(hs:a.eval s=v)(hown:w.ownsRow base e size v n xs)
 (src:Option Addr)(m c:Nat)(news:List Value)(hx:a.eval x=.slice src m c)(hl:news.length=m*size)(hsrc:0<m→∃ad,src=some ad∧∀j u,news[j]? =some u→w.cell? (ad.add j)=some u)(h1:∀u∈news,u.oneCell'=true)
 (h63:n+m≤maxLen)(hbytes:(n+m)*bytes≤140737488355328)(hbase:base≤w.heap.size)
 (h:∀v' w',w'.ownsRow base e size v' (n+m) (xs++news)→w.grownBy w' v.ownBlock→(v'.ownBlock=v.ownBlock∨v'.ownBlock=some w.heap.size)→K (a.put o.dst v') w'):o.wp P a w K Q:=by
 obtain⟨v',w',hr,h2,h3,h5⟩:=Qgl (P:=P) w base t o.type e i z size bytes ht hi hz hsize hby hzs hsz v n xs hown src m c news hl hsrc h1 h63 hbytes hbase;unfold Oper.wp execOp;simp only[ho,resolve,invoke,builtin,Sem.run_bind,Sem.run_pure,Result.andThen_ok,List.map_toArray,QhV,List.map_nil,hs,hx,hr];exact h v' w' h2 h3 h5
theorem Kc {P:Program}(w:World){ops:Array Oper}{rest:List Oper}{o:Oper}{a:Act}{Q:Exit→Act→World→Prop}(hgd:o.guard=none)(s x:Operand)(t:TypeId)
 (ho:o.op=.call {callee:=.builtin .append,args:=#[s,x],argTypes:=#[t,t]})
 (base:Nat)(e:TypeId)(i:TypeInfo)(z:Value)(size bytes:Nat)(ht:P.underlying t=some (.slice e))(hi:P.info? e=some i)(hz:i.zero=some z)
 (hsize:i.size=size)(hby:i.bytes=bytes)(hzs:z.cells.size=size)(hsz:0<size)
 (v:Value)(n:Nat)(xs:List Value)(hs:a.eval s=v)(hown:w.ownsRow base e size v n xs)
 (src:Option Addr)(m c:Nat)(news:List Value)(hx:a.eval x=.slice src m c)(hl:news.length=m*size)(hsrc:0<m→∃ad,src=some ad∧∀j u,news[j]? =some u→w.cell? (ad.add j)=some u)(h1:∀u∈news,u.oneCell'=true)
 (h63:n+m≤maxLen)(hbytes:(n+m)*bytes≤140737488355328)(hbase:base≤w.heap.size)
 (h:∀v' w',w'.ownsRow base e size v' (n+m) (xs++news)→w.grownBy w' v.ownBlock→(v'.ownBlock=v.ownBlock∨v'.ownBlock=some w.heap.size)→wpList P ops Q rest (a.put o.dst v') w'):wpList P ops Q (o::rest) a w:=
 wpList_plain hgd fun _ hK=>QbU w s x t ho base e i z size bytes ht hi hz hsize hby hzs hsz v n xs hs hown src m c news hx hl hsrc h1 h63 hbytes hbase fun v' w' h2 h3 h4=>hK _ _ (h v' w' h2 h3 h4)
theorem U4 {P:Program}(w:World){ops:Array Oper}{o:Oper}{a:Act}{K:Act→World→Prop}{Q:Exit→Act→World→Prop}{E:Prop}(hgd:o.guard=none)(s x:Operand)(t:TypeId)
 (ho:o.op=.call {callee:=.builtin .append,args:=#[s,x],argTypes:=#[t,t]})
 (base:Nat)(e:TypeId)(i:TypeInfo)(z:Value)(size bytes:Nat)(ht:P.underlying t=some (.slice e))(hi:P.info? e=some i)(hz:i.zero=some z)
 (hsize:i.size=size)(hby:i.bytes=bytes)(hzs:z.cells.size=size)(hsz:0<size)
 (v:Value)(n:Nat)(xs:List Value)(hs:a.eval s=v)(hown:w.ownsRow base e size v n xs)
 (src:Option Addr)(m c:Nat)(news:List Value)(hx:a.eval x=.slice src m c)(hl:news.length=m*size)(hsrc:0<m→∃ad,src=some ad∧∀j u,news[j]? =some u→w.cell? (ad.add j)=some u)(h1:∀u∈news,u.oneCell'=true)
 (h63:n+m≤maxLen)(hbytes:(n+m)*bytes≤140737488355328)(hbase:base≤w.heap.size)
 (h:∀v' w',w'.ownsRow base e size v' (n+m) (xs++news)→w.grownBy w' v.ownBlock→(v'.ownBlock=v.ownBlock∨v'.ownBlock=some w.heap.size)→K (a.put o.dst v') w'):
 if Region.wanted o (yielded ops a.tmps)=true then Oper.wp P o a w K Q else E:=by
 have hw:Region.wanted o (yielded ops a.tmps)=true:=by simp[Region.wanted,hgd]
 rw[if_pos hw];exact QbU w s x t ho base e i z size bytes ht hi hz hsize hby hzs hsz v n xs hs hown src m c news hx hl hsrc h1 h63 hbytes hbase h
theorem Qi.src {w:World}{a:Option Addr}{zs:List Int}(h:Qi w a zs):0<zs.length→∃ad,a=some ad∧∀j u,(zs.map (QhT .i64))[j]? =some u→w.cell? (ad.add j)=some u:=fun hm=>by
 obtain⟨b,off,h1,h2,h3⟩:=h hm;refine⟨_,h1,fun j u hj=>?_⟩;rw[List.getElem?_map]at hj
 cases hz:zs[j]? with
 |none=>rw[hz]at hj;simp at hj
 |some z=>
  rw[hz]at hj;simp at hj;subst hj
  have hjl:j<zs.length:=by
   rcases Nat.lt_or_ge j zs.length with q|q
   ·exact q
   ·rw[List.getElem?_eq_none q]at hz;simp at hz
  have:=h3 j hjl
  have ea:(⟨b,off,none⟩:Addr).add j=⟨b,off+j,none⟩:=by
   unfold Addr.add;by_cases h:j=0
   ·subst h;simp
   ·simp[h]
  rw[ea,this];simp[List.getD,hz]
theorem Qz.src {w:World}{a:Option Addr}{ws:List (Int×Int)}(h:Qz w a ws):0<ws.length→∃ad,a=some ad∧∀j u,(ws.flatMap wc)[j]? =some u→w.cell? (ad.add j)=some u:=fun hm=>by
 obtain⟨b,off,h1,h2,h3⟩:=h hm;refine⟨_,h1,fun j u hj=>?_⟩
 have hjl:j<ws.length*2:=by
  rcases Nat.lt_or_ge j (ws.length*2)with q|q
  ·exact q
  ·rw[List.getElem?_eq_none (by rw[JY wc 2 (fun _=>rfl)];exact q)]at hj;simp at hj
 have hi:j/2<ws.length:=by omega
 have hg:=JE wc 2 (fun _=>rfl) ws (j/2) (j%2) hi (Nat.mod_lt _ (by omega));have ej:j/2*2+j%2=j:=by omega
 rw[ej,hj]at hg
 have ea:(⟨b,off,none⟩:Addr).add j=⟨b,off+j,none⟩:=by
  unfold Addr.add;by_cases h:j=0
  ·subst h;simp
  ·simp[h]
 obtain⟨c1,c2⟩:=h3 (j/2) hi;rw[ea];rcases Nat.mod_two_eq_zero_or_one j with h0|h0
 ·rw[h0]at hg;simp[wc]at hg;have:off+j=off+j/2*2:=by omega
  rw[this,c1,hg]
 ·rw[h0]at hg;simp[wc]at hg;have:off+j=off+j/2*2+1:=by omega
  rw[this,c2,hg]
theorem UT (zs:List Int):∀u∈zs.map (QhT .i64),u.oneCell'=true:=fun u hu=>by
 obtain⟨z,_,rfl⟩:=List.mem_map.1 hu;rfl
theorem JU (ws:List (Int×Int)):∀u∈ws.flatMap wc,u.oneCell'=true:=fun u hu=>by
 obtain⟨p,_,hp⟩:=List.mem_flatMap.1 hu;simp[wc]at hp;rcases hp with rfl|rfl<;>rfl
end
end Go.Proofs.YtcpnkpogebjieaaGreat
