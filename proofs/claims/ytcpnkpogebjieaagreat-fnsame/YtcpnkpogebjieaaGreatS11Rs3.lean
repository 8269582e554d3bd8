/- The program's own coming to: the set of bits. -/
import Derived.Test.YtcpnkpogebjieaaGreatS10Vc
import Derived.Deep.RegionWith
open Go.Value renaming slice→QhR,int→QhU,string→QhX
open Nat renaming le_refl→QhS,le_trans→QhV,zero_le→QhW,pow_lt_pow_right→QhY,testBit_two_pow→QhZ,lt_of_lt_of_le→Qh1
open Go.Obj renaming cells→QhT
open List renaming getElem?_cons_zero→Qh0,getElem_mem→Qh2,take_of_length_le→Qh3,getElem?_eq_getElem→Qh4
set_option maxHeartbeats 1600000
set_option maxRecDepth 100000
namespace Go.Proofs.YtcpnkpogebjieaaGreat
section
open Go.RowKit
theorem QeA:(Cut.prog.info? 140).map (fun i=>(i.zero,i.size,i.bytes))=some (some (.int .u64 0),1,8):=by kernel_rfl
theorem QfA (n:Nat)(w:World)(hn:n≤60):
 Calls Cut.prog 92 #[.int .i64 n] w fun e w'=>∃g,e=.returned (.agg #[.slice (some ⟨g,0,none⟩) ((n+63)/64) ((n+63)/64)])∧Below w.heap.size w w'∧w.heap.size≤g∧Blk w' g (List.replicate ((n+63)/64) (.int .u64 0)) 140:=by
 obtain⟨i0,hi,hz0,hz1,hz2⟩:=info_parts QeA;go_enter (Cut.func_of Tryz.func92 rfl),Tryz.ntmps92;go_wp2_with (at_make;refine wpList_make_full _ rfl _ _ 115 rfl w.heap.size 140 i0 (.int .u64 0) 1 ((Cut.under_eq 115).trans Tryz.underlying115) hi hz0 hz1 .i64 .i64 _ _ ((n+63)/64) rfl rfl ?c0 ?c0' ?c1 ?c2 ?c3 ?_)
 case c0=>omega
 case c0'=>omega
 case c1=>rw[hz2];omega
 case c2=>unfold maxLen;omega
 case c3=>simp
 intro w1 hown hgr;have hb0:=Vk hgr;have hk:=P6 hown;rw[toList_madeCells_one]at hk;have hB:Below w.heap.size w w1:=((Below.refl _ w).alloc (QhS _) _).trans (hb0.mono (by simp));obtain⟨hc,hf⟩:=Qcj hb0;simp at hc hf;clear hown hgr hb0;go_wp2;refine bodyPost_ret (v:=.agg #[.slice (some ⟨w.heap.size+1,0,none⟩) ((n+63)/64) ((n+63)/64)]) ?_ rfl ⟨_,rfl,?_,?_,?_⟩
 ·simp[results,Tryz.results92,go_sem,hc]
 ·(repeat refine Below.setCell ?_ (by dsimp only;omega) _)
  exact hB
 ·omega
 ·(repeat refine Blk.other ?_ _ _ (by dsimp only;omega))
  exact hk
theorem QbW (n:Nat)(h:n<64):IntKind.u64.wrap (2^n)=((2^n:Nat):Int):=by
 have h1:2^n<2^64:=QhY (by omega) h;have h2:((2:Int)^n)=((2^n:Nat):Int):=by simp
 rw[IntKind.wrap_u64,h2];have h3:(2:Nat)^64=18446744073709551616:=by decide
 rw[h3]at h1;generalize (2:Nat)^n=P at h1;omega
theorem Qcc (X n:Nat):(X &&& 2^n=0)↔X.testBit n=false:=by
 constructor
 ·intro h;have h1:(X &&& 2^n).testBit n=false:=by rw[h];simp
  rw[Nat.testBit_and,Nat.testBit_two_pow_self]at h1;simpa using h1
 ·intro h;apply Nat.eq_of_testBit_eq;intro i;rw[Nat.testBit_and,QhZ,Nat.zero_testBit];by_cases e:n=i
  ·subst e;simp[h]
  ·simp[e]
theorem QfS (X n:Nat)(h:X.testBit n=true):X|||2^n=X:=by
 apply Nat.eq_of_testBit_eq;intro i;rw[Nat.testBit_or,QhZ];by_cases e:n=i
 ·subst e;simp[h]
 ·simp[e]
theorem Qcd (X n:Nat)(hX:X<18446744073709551616)(hn:n<60):(bits BinOp.and IntKind.u64 (X:Int) (IntKind.u64.wrap (2^n))!=0)=X.testBit n:=by
 have h1:2^n<2^64:=QhY (by omega) (by omega);have h3:(2:Nat)^64=18446744073709551616:=by decide
 rw[QbW n (by omega),u64_and_nat X (2^n) hX (by omega)];have:=Qcc X n
 cases hb:X.testBit n with
 |false=>rw[this.2 hb];rfl
 |true=>
  have hne:X &&& 2^n≠0:=fun e=>by rw[this.1 e]at hb;cases hb
  rw[bne_iff_ne];omega
theorem QfT (X n:Nat)(hX:X<18446744073709551616)(hn:n<60):bits BinOp.or IntKind.u64 (X:Int) (IntKind.u64.wrap (2^n))=((X|||2^n:Nat):Int):=by
 have h1:2^n<2^64:=QhY (by omega) (by omega);have h3:(2:Nat)^64=18446744073709551616:=by decide
 rw[QbW n (by omega),u64_or_nat X (2^n) hX (by omega)]
theorem QfU (X n:Nat)(hX:X<18446744073709551616)(hn:n<60):X|||2^n<18446744073709551616:=by
 have h1:2^n<2^64:=QhY (by omega) (by omega);have h3:(2:Nat)^64=18446744073709551616:=by decide
 rw[←h3]at hX⊢;exact Nat.or_lt_two_pow hX h1
theorem Qb6 (g X n:Nat)(w:World)(hn:n<60)(hX:X<18446744073709551616)(hb:Blk w g [.int .u64 X] 140):
 Calls Cut.prog 119 #[.agg #[.slice (some ⟨g,0,none⟩) 1 1],.int .i64 n] w fun e w'=>e=.returned (.bool !X.testBit n)∧Blk w' g [.int .u64 ((X|||2^n:Nat):Int)] 140∧w.grownBy w' (some g):=by
 have c0:=hb.cell 0;simp only[Qh0]at c0;have f0:=hb.free 0;have hlt:=hb.lt;have hd1:n/64=0:=by omega
 have hd2:(n:Int)/64=0:=by omega
 have hd3:n%64=n:=by omega
 have hd4:(n:Int)%64=n:=by omega
 have ha:=Qcd X n hX hn;have HO:Hid (bits BinOp.or IntKind.u64 (X:Int) (IntKind.u64.wrap (2^n))=((X|||2^n:Nat):Int)):=QfT X n hX hn;have HB:Hid (X.testBit n=true→X|||2^n=X):=QfS X n;have hA:Below w.heap.size w (w.alloc (QhT #[QhR (some ⟨g,0,none⟩) 1 1] 117)):=(Below.refl _ _).alloc (QhS _) _;have hbA:=hb.alloc (QhT #[QhR (some ⟨g,0,none⟩) 1 1] 117)
 cases hbit:X.testBit n with
 |true=>
  rw[hbit]at ha;have HE:=HB.out hbit;have HE':Hid (X|||2^n=X):=HE;clear hbit HE;go_enter (Cut.func_of Tryz.func119 rfl),Tryz.ntmps119;go_wp2;go_ret;exact⟨rfl,by rw[HE'.out];exact hbA,Jd hA (QhS _) _⟩
 |false=>
  rw[hbit]at ha;clear hbit;have hst:=(hb.store 0 (.int .u64 (bits BinOp.or IntKind.u64 (X:Int) (IntKind.u64.wrap (2^n))))).alloc (QhT #[QhR (some ⟨g,0,none⟩) 1 1] 117);rw[HO.out]at hst
  have hg:w.grownBy ((w.setCell ⟨g,0,none⟩ (.int .u64 ((X|||2^n:Nat):Int))).alloc (QhT #[QhR (some ⟨g,0,none⟩) 1 1] 117)) (some g):=
   Z4 (b:=w.setCell ⟨g,0,none⟩ (.int .u64 ((X|||2^n:Nat):Int))) ⟨rfl,rfl,rfl,by simp[World.setCell],fun k _ hk=>Below.heap_setCell _ _ _ _ (fun e=>hk (by rw[e]))⟩ (Jd ((Below.refl _ _).alloc (QhS _) _) (QhS _) _)
  go_enter (Cut.func_of Tryz.func119 rfl),Tryz.ntmps119;go_wp2;go_ret;rw[HO.out];exact⟨rfl,hst,hg⟩
structure Gr2 (w w':World) (r:Option Nat) (g:Nat):Prop where
 os:w'.os=w.os
 tape:w'.tape=w.tape
 output:w'.output=w.output
 size:w.heap.size≤w'.heap.size
 block:∀k,k<w.heap.size→some k≠r→k≠g→w'.heap[k]? =w.heap[k]?
theorem Gr2.refl (w:World)(r:Option Nat)(g:Nat):Gr2 w w r g:=⟨rfl,rfl,rfl,QhS _,fun _ _ _ _=>rfl⟩
theorem Gr2.trans {a b c:World}{r:Option Nat}{g:Nat}(h:Gr2 a b r g)(k:Gr2 b c r g):Gr2 a c r g:=
 ⟨k.os.trans h.os,k.tape.trans h.tape,k.output.trans h.output,QhV h.size k.size,fun i hi hr hg=>(k.block i (Qh1 hi h.size) hr hg).trans (h.block i hi hr hg)⟩
theorem Gr2.row {w w':World}{r:Option Nat}(h:w.grownBy w' r)(g:Nat):Gr2 w w' r g:=⟨h.os,h.tape,h.output,h.size,fun k hk hr _=>h.block k hk hr⟩
theorem Gr2.at_ {w w':World}{g:Nat}(h:w.grownBy w' (some g))(r:Option Nat):Gr2 w w' r g:=⟨h.os,h.tape,h.output,h.size,fun k hk _ hg=>h.block k hk (fun e=>hg (by simpa using e))⟩
theorem Gr2.ofBelow {w w':World}{B:Nat}(h:Below B w w')(hB:w.heap.size≤B)(r:Option Nat)(g:Nat):Gr2 w w' r g:=Gr2.row (Jd h hB r) g
theorem Gr2.step {a b c:World}{r s:Option Nat}{g:Nat}(h:Gr2 a b r g)(k:Gr2 b c s g)(hs:s=r∨∃x,s=some x∧a.heap.size≤x):Gr2 a c r g:=by
 refine⟨k.os.trans h.os,k.tape.trans h.tape,k.output.trans h.output,QhV h.size k.size,fun i hi hr hg=>?_⟩;refine(k.block i (Qh1 hi h.size) ?_ hg).trans (h.block i hi hr hg);rcases hs with rfl|⟨x,rfl,hx⟩
 ·exact hr
 ·intro e;simp at e;omega
theorem Gr2.below {w w':World}{B g:Nat}{r:Option Nat}(h:Gr2 w w' r g)(hB:B≤w.heap.size)(hr:∀k,r=some k→B≤k)(hg:B≤g):Below B w w':=
 ⟨h.os,h.tape,h.output,h.size,fun k hk=>h.block k (by omega) (fun e=>by have:=hr k e.symm;omega) (by omega)⟩
theorem Blk.gr2 {w w':World}{B t g:Nat}{cs:List Value}{r:Option Nat}(h:Blk w B cs t)(hg:Gr2 w w' r g)(hr:r≠some B)(hB:B≠g):Blk w' B cs t:=by
 unfold Blk at *;rw[hg.block B (lt_of_block h) (fun e=>hr e.symm) hB];exact h
theorem Qi.gr2 {w w':World}{a:Option Addr}{zs:List Int}{r:Option Nat}{g:Nat}(h:Qi w a zs)(hg:Gr2 w w' r g)(hr:AvI a zs.length r)(hb:AvI a zs.length (some g)):Qi w' a zs:=by
 intro hm;obtain⟨b,off,h1,h2,h3⟩:=h hm;exact⟨b,off,h1,Qh1 h2 hg.size,fun i hi=>(World.cell?_of_block (w:=w) (hg.block b h2 (hr hm _ h1) (fun e=>hb hm _ h1 (by rw[e])))).trans (h3 i hi)⟩
theorem Qa.gr2 {w w':World}{base g:Nat}{v:Value}{zs:List Int}(h:Qa w base v zs)(hg:w.grownBy w' (some g))(hne:v.ownBlock≠some g):Qa w' base v zs:=by
 refine World.ownsRow.kept h hg ?_;exact Or.inr hne
def Vb (X:Nat)(l:List Int):Prop:=X<18446744073709551616∧∀i:Nat,X.testBit i=decide ((i:Int)∈l)
theorem Qcl:Vb 0 []:=⟨by omega,fun i=>by simp⟩
theorem Qck {X:Nat}{l:List Int}(h:Vb X l){n:Nat}(hn:n<60):Vb (X|||2^n) (put l n):=by
 refine⟨QfU X n h.1 hn,fun i=>?_⟩;rw[Nat.testBit_or,QhZ,h.2 i];have h0:¬((n:Int)<0):=by omega
 by_cases hm:(n:Int)∈l
 ·have e:put l n=l:=by simp[put,hm]
  rw[e];by_cases hi:n=i
  ·subst hi;simp[hm]
  ·simp[hi]
 ·have e:put l n=l++ [(n:Int)]:=by simp[put,hm,h0]
  rw[e];by_cases hi:n=i
  ·subst hi;simp
  ·have:¬((i:Int)=(n:Int)):=by omega
   simp[hi,this]
def JC (w:World)(n g:Nat)(l:List Int):Prop:=0<n→∃X,Blk w g [.int .u64 (X:Nat)] 140∧Vb X l
theorem P2 (base g n:Nat)(v0:Value)(l0:List Int)(pa:Option Addr)(pcap:Nat)(ps:List Int)(w:World)(hn:n≤60)(hv:Qa w base v0 l0)(hb:base≤w.heap.size)(hgb:g<base)(hset:JC w n g l0)(hpl:Qr n l0)(hp:Qi w pa ps)(hpl2:ps.length≤1048576)
 (hav:AvI pa ps.length v0.ownBlock)(hag:AvI pa ps.length (some g))(hlt:∀z∈ps,z<n):
 Calls Cut.prog 93 #[v0,.slice pa ps.length pcap,.agg #[.slice (some ⟨g,0,none⟩) ((n+63)/64) ((n+63)/64)]] w fun e w'=>∃v',e=.returned v'∧Qa w' base v' (putAll l0 ps)∧Qr n (putAll l0 ps)∧JC w' n g (putAll l0 ps)∧Gr2 w w' v0.ownBlock g∧(v'.ownBlock=v0.ownBlock∨∃x,v'.ownBlock=some x∧w.heap.size≤x):=by
 obtain⟨i0,hi,hz0,hz1,hz2⟩:=info_parts Je;obtain⟨a0,cap0,rfl,-⟩:=hv.form;go_enter (Cut.func_of Tryz.func93 rfl),Tryz.ntmps93;go_wp2;have hB0:Below w.heap.size w (w.alloc (QhT #[QhR (some ⟨g,0,none⟩) ((n+63)/64) ((n+63)/64)] 117)):=(Below.refl _ _).alloc (QhS _) _;have hK0:=Blk.new w [QhR (some ⟨g,0,none⟩) ((n+63)/64) ((n+63)/64)] 117;go_loopw [0,8,11] (fun v _ i wr=>∃(j:Nat),i=.int .i64 j∧j≤ps.length∧Qa wr base v (putAll l0 (ps.take j))∧Qr n (putAll l0 (ps.take j))∧JC wr n g (putAll l0 (ps.take j))∧Gr2 w wr (QhR a0 l0.length cap0).ownBlock g∧(v.ownBlock=(QhR a0 l0.length cap0).ownBlock∨∃x,v.ownBlock=some x∧w.heap.size≤x)∧Qi wr pa ps∧AvI pa ps.length v.ownBlock∧Blk wr w.heap.size [QhR (some ⟨g,0,none⟩) ((n+63)/64) ((n+63)/64)] 117) (fun _ _ i _=>ps.length-(intOf i).toNat)
 case atStart=>exact⟨0,rfl,QhW _,hv.below hB0 (QhS _),hpl,fun h=>by obtain⟨X,h1,h2⟩:=hset h;exact⟨X,h1.alloc _,h2⟩,Gr2.ofBelow hB0 (QhS _) _ _,Or.inl rfl,hp.below hB0 (QhS _),hav,hK0⟩
 case round=>
  obtain⟨j,rfl,hjn,hown,hplj,hsetj,hgr,hob,hseg,hav2,hblk⟩:=hrel;clear hB0 hK0 hv hpl hset hp hav;obtain⟨va,vcap,rfl,-⟩:=hown.form;have hgl:=hgr.size;by_cases hj:j<ps.length
  ·have HP:Hid (putAll l0 (ps.take (j+1))=put (putAll l0 (ps.take j)) ps[j]):=Pv l0 ps j hj;have hz:=hlt ps[j] (Qh2 hj);have hpj:=hplj.len;obtain⟨b6,off6,rfl,hb6,d1⟩:=hseg.get hj;by_cases h0:ps[j]<0
   ·have e:put (putAll l0 (ps.take j)) ps[j]=putAll l0 (ps.take j):=by simp[put,h0]
    rw[e]at HP;have hd:decide (0≤ps[j])=false:=by simp;omega
    have A1:Hid (Qa wr base (QhR va (putAll l0 (ps.take j)).length vcap) (putAll l0 (ps.take (j+1)))):=by
     show Qa _ _ _ _;rw[HP.out];exact hown
    have A2:Hid (Qr n (putAll l0 (ps.take (j+1)))):=by
     show Qr _ _;rw[HP.out];exact hplj
    have A3:Hid (JC wr n g (putAll l0 (ps.take (j+1)))):=by
     show JC _ _ _ _;rw[HP.out];exact hsetj
    clear hown hplj hsetj e;go_wp2;go_roundw
    case rel=>exact⟨j+1,by go_num,by omega,A1.out,A2.out,A3.out,hgr,hob,hseg,hav2,hblk⟩
    case measure=>simp[intOf];omega
   ·have hn0:0<n:=by omega
    have hm1:(n+63)/64=1:=by omega
    obtain⟨X,hX,hbits⟩:=hsetj hn0;obtain⟨m,hm⟩:∃m:Nat,ps[j]=(m:Int):=⟨ps[j].toNat,by omega⟩;rw[hm]at d1 HP hz h0;have hm60:m<60:=by omega
    have hc0:=hblk.cell 0;simp only[Qh0]at hc0;rw[hm1]at hc0;have c3:=Qb6 g X m wr hm60 hbits.1 hX;have hX2:=Qck hbits hm60;have htb:=hbits.2 m;have hng:=hown.ne hX (by decide);have hnb:=hown.ne hblk (by decide);have hgne:w.heap.size≠g:=by omega
    have hd0:decide (0≤(m:Int))=true:=by simp
    have hmn:m<n:=by omega
    clear hm hz hm1;go_wp2_with fail;refine c3.mono ?_;rintro e w1 ⟨rfl,hX1,hg1⟩;have hown1:=hown.gr2 hg1 hng;have hgr1:=hgr.trans (Gr2.at_ hg1 _);have hseg1:=hseg.grown hg1 hag;have hblk1:=hblk.grown hg1 (fun e=>hgne (by simpa using e.symm));have hs1:=hg1.size;clear c3 hX d1 hc0;by_cases hmem:(m:Int)∈putAll l0 (ps.take j)
    ·have e:put (putAll l0 (ps.take j)) m=putAll l0 (ps.take j):=by simp[put,hmem]
     rw[e]at HP hX2;have hbt:X.testBit m=true:=by rw[htb];simpa using hmem
     have A1:Hid (Qa w1 base (QhR va (putAll l0 (ps.take j)).length vcap) (putAll l0 (ps.take (j+1)))):=by
      show Qa _ _ _ _;rw[HP.out];exact hown1
     have A2:Hid (Qr n (putAll l0 (ps.take (j+1)))):=by
      show Qr _ _;rw[HP.out];exact hplj
     have A3:Hid (JC w1 n g (putAll l0 (ps.take (j+1)))):=by
      show JC _ _ _ _;rw[HP.out];exact fun _=>⟨_,hX1,hX2⟩
     clear hown hown1 hplj hsetj e hmem htb hX1 hX2 hbits hng hnb;go_wp2;go_roundw
     case rel=>exact⟨j+1,by go_num,by omega,A1.out,A2.out,A3.out,hgr1,hob,hseg1,hav2,hblk1⟩
     case measure=>simp[intOf];omega
    ·have hneg:¬((m:Int)<0):=by omega
     have e:put (putAll l0 (ps.take j)) m=putAll l0 (ps.take j)++ [(m:Int)]:=by simp[put,hmem,hneg]
     have hbt:X.testBit m=false:=by rw[htb];simpa using hmem
     have A2:Hid (Qr n (putAll l0 (ps.take (j+1)))):=by
      show Qr _ _;rw[HP.out];exact hplj.put (by omega)
     rw[e]at HP hX2;have hvA:(w1.alloc (QhT #[QhU .i64 (m:Int)] 3)).ownsRow base 3 1 (.slice va (putAll l0 (ps.take j)).length vcap) (putAll l0 (ps.take j)).length ((putAll l0 (ps.take j)).map (QhU .i64)):=World.ownsRow.alloc hown1 _;clear e hmem htb hbits;go_wp2_with (at_builtin;refine wpList_append_own_at _ rfl _ _ 24 rfl base 3 i0 (.int .i64 0) 1 8 ((Cut.under_eq 24).trans Tryz.underlying24) hi hz0 hz1 hz2 rfl (by decide) _ _ _ rfl hvA ⟨w1.heap.size,0,none⟩ 1 1 [.int .i64 (m:Int)] rfl rfl (cell_one_new _ _ _) ?c2 ?c3 ?c4 ?c5 ?_)
     case c2=>intro u hu;simp at hu;subst hu;rfl
     case c3=>unfold maxLen;omega
     case c4=>omega
     case c5=>simp;omega
     intro v' w2 hown2 hgr2 _ hat;have hg0:w1.grownBy w2 (QhR va (putAll l0 (ps.take j)).length vcap).ownBlock:=Z4 (Jd ((Below.refl w1.heap.size w1).alloc (QhS _) _) (QhS _) _) hgr2
     have hat':v'.ownBlock=(QhR va (putAll l0 (ps.take j)).length vcap).ownBlock∨∃x,v'.ownBlock=some x∧w1.heap.size≤x:=by
      rcases hat with h|h
      ·exact Or.inl h
      ·exact Or.inr ⟨_,h,by simp⟩
     have B1:=QaA hob hat' (QhV hgl hs1);have B2:=hgr1.step (Gr2.row hg0 g) hob;have B3:=hseg1.grown hg0 hav2
     have B4:AvI (some ⟨b6,off6,none⟩) ps.length v'.ownBlock:=by
      rcases hat' with e|⟨x,e,hx⟩
      ·rw[e];exact hav2
      ·rw[e];exact hseg1.av hx
     have B5:=hblk1.grown hg0 hnb;have B6:=hX1.grown hg0 hng
     have A1:Hid (Qa w2 base v' (putAll l0 (ps.take (j+1)))):=by
      show Qa _ _ _ _;rw[HP.out];unfold Qa;simpa using hown2
     have A3:Hid (JC w2 n g (putAll l0 (ps.take (j+1)))):=by
      show JC _ _ _ _;rw[HP.out];exact fun _=>⟨_,B6,hX2⟩
     clear hown hown1 hplj hsetj hX1 hX2 hng hnb hown2 hgr2 hat hg0 hat' B6 hvA;go_wp2;go_roundw
     case rel=>exact⟨j+1,by go_num,by omega,A1.out,A2.out,A3.out,B2,B1,B3,B4,B5⟩
     case measure=>simp[intOf];omega
  ·have ej:ps.take j=ps:=Qh3 (by omega)
   have hown2:Hid (Qa wr base (QhR va (putAll l0 (ps.take j)).length vcap) (putAll l0 ps)):=by
    show Qa _ _ _ _;rw[ej]at hown⊢;exact hown
   rw[ej]at hplj hsetj;have hjd:decide ((j:Int)<(ps.length:Int))=false:=by simp;omega
   clear ej hown;go_wp2;go_ret;exact⟨_,rfl,hown2.out,hplj,hsetj,hgr,hob⟩
theorem YY {os:List Ob}{ds:List (Int×Int)}{x:Int}{i:Nat}(hx:x.toNat=i)(hi:i<os.length):
 nextP (os.map Ob.p) ds x=if os[i].k=3 then os[i].r.drop 1 else if os[i].k=4 then(ds.filter fun p=>p.1 ==x).map fun p=>p.2 else os[i].r:=by
 subst hx;simp[nextP,List.getElem?_map,Qh4 hi,Ob.p]
structure PX (w w':World) (h:Hp) (v:Value) (nx:List Int) (na:Option Addr) (ncap:Nat):Prop where
 val:v=.slice na nx.length ncap
 seg:Qi w' na nx
 kept:Below w.heap.size w w'
 av:∀r,QM h r→(∀g,r=some g→g<w.heap.size)→AvI na nx.length r
def flt (ds:List (Int×Int))(x:Int):List Int:=(ds.filter fun p=>p.1 ==x).map fun p=>p.2
theorem O1 (ds:List (Int×Int))(x:Int)(k:Nat)(hk:k<ds.length):flt (ds.take (k+1)) x=if(ds[k].1 ==x)=true then flt (ds.take k) x++ [ds[k].2]else flt (ds.take k) x:=by
 unfold flt;rw[List.take_succ_eq_append_getElem hk,List.filter_append];by_cases h:(ds[k].1 ==x)=true
 ·simp only[List.filter_cons,h,if_true,List.filter_nil,List.map_append,List.map_cons,List.map_nil]
 ·simp only[List.filter_cons,h,List.filter_nil];simp
theorem O0 (ds:List (Int×Int))(x:Int)(k:Nat):(flt (ds.take k) x).length≤k:=by
 unfold flt;rw[List.length_map];exact QhV (List.length_filter_le _ _) (List.length_take_le _ _)
theorem QeO (h:Hp)(x:Int)(w:World)(hh:Qj w h)(hs:ZV h)(h0:0≤x)(h1:x<h.os.length)(h3:∀(i:Nat) (hi:i<h.os.length),h.os[i].k=3→1≤h.os[i].r.length)(hcp:∀(i:Nat) (hi:i<h.os.length),h.os[i].r.length≤h.os[i].rcap):
 Calls Cut.prog 117 #[h.v,.int .i64 x] w fun e w'=>∃v,e=.returned v∧∃na ncap,PX w w' h v (nextP (h.os.map Ob.p) h.ds x) na ncap:=by
 have hav:=fun(r:Option Nat) (q:QM h r)=>q;obtain⟨oa,ocap,os,ra,rcap,rs,wa,wcap,ws,da,dcap,ds⟩:=h;obtain⟨ho,-,-,hd⟩:=hh;obtain⟨so,soo,-,-,sd⟩:=hs;simp only[Hp.v]at *;have hi:x.toNat<os.length:=by omega
 have HN:=YY (os:=os) (ds:=ds) rfl hi;have h3':=h3 _ hi;have hcp':=hcp _ hi;have soo':=soo _ hi;obtain⟨b,off,rfl,hbw,c1,c2,c3⟩:=ho.get hi;have hsg:=ho.2 _ hi;have Hav:Hid (∀r,QM (⟨some ⟨b,off,none⟩,ocap,os,ra,rcap,rs,wa,wcap,ws,da,dcap,ds⟩:Hp) r→AvI os[x.toNat].ra os[x.toNat].r.length r):=fun r q=>q.aoo _ hi;clear hav h3 soo hcp;generalize nextP (os.map Ob.p) ds x=NX at HN⊢;by_cases k3:os[x.toNat].k=3
 ·rw[if_pos k3]at HN;rw[k3]at c1;have hl:=h3' k3;clear h3' k3;obtain⟨b2,off2,e2,hb2,hcs⟩:=hsg (by omega);rw[e2]at c3;have HNX:Hid (NX=os[x.toNat].r.drop 1):=HN;clear HN;generalize hn:os[x.toNat].r.length=n at *;have hl1:(1:Int)≤(n:Int):=by omega
  go_enter (Cut.func_of Tryz.func117 rfl),Tryz.ntmps117;go_wp2
  ·have hn0:n-1=0:=by omega
   have hlen:NX.length=0:=by rw[HNX.out,List.length_drop,hn];exact hn0
   go_ret;refine⟨_,rfl,some ⟨b2,off2,none⟩,0,⟨?_,fun hm=>by omega,((Below.refl _ _).alloc (QhS _) _).alloc (by simp) _,fun r q _ hm=>by omega⟩⟩;rw[hlen,←hn0];rfl
  ·have hlen:NX.length=n-1:=by rw[HNX.out,List.length_drop,hn]
   go_ret;refine⟨_,rfl,some ⟨b2,off2+1,none⟩,os[x.toNat].rcap-1,⟨?_,fun hm=>⟨b2,off2+1,rfl,?_,fun i hi2=>?_⟩,((Below.refl _ _).alloc (QhS _) _).alloc (by simp) _,fun r q _ hm y hy=>?_⟩⟩
   ·rw[hlen];rfl
   ·simp;omega
   ·have hb3:Below w.heap.size w _:=((Below.refl _ w).alloc (QhS _) (QhT #[QhR (some {block:=b,off:=off}) os.length ocap,QhR ra rs.length rcap,QhR wa ws.length wcap,QhR da ds.length dcap] 27)).alloc (by simp) (QhT #[QhU .i64 3,QhX os[x.toNat].t,QhR (some ⟨b2,off2,none⟩) n os[x.toNat].rcap] 37);refine(hb3.cell (p:=⟨b2,off2+1+i,none⟩) hb2).trans ?_;have:=hcs (i+1) (by omega);rw[show off2+1+i=off2+(i+1)by omega,this,HNX.out];simp[List.getD]
    try rw[Nat.add_comm]
   ·have:=Hav.out r q (by omega) _ e2;simp at hy;subst hy;exact this
 rw[if_neg k3]at HN;have g3:(os[x.toNat].k ==3)=false:=by simpa using k3
 by_cases k4:os[x.toNat].k=4
 ·rw[if_pos k4]at HN;have HNX:Hid (NX=(ds.filter fun p=>p.1 ==x).map fun p=>p.2):=HN;clear HN h3' k3 g3;rw[k4]at c1;clear k4;obtain⟨i0,hi',hz0,hz1,hz2⟩:=info_parts Je;go_enter (Cut.func_of Tryz.func117 rfl),Tryz.ntmps117;go_wp2;have hB0:Below w.heap.size w ((w.alloc (QhT #[QhR (some {block:=b,off:=off}) os.length ocap,QhR ra rs.length rcap,QhR wa ws.length wcap,QhR da ds.length dcap] 27)).alloc (QhT #[QhU .i64 4,QhX os[x.toNat].t,QhR os[x.toNat].ra os[x.toNat].r.length os[x.toNat].rcap] 37)):=((Below.refl _ w).alloc (QhS _) _).alloc (by simp) _;have hK0:Blk ((w.alloc (QhT #[QhR (some {block:=b,off:=off}) os.length ocap,QhR ra rs.length rcap,QhR wa ws.length wcap,QhR da ds.length dcap] 27)).alloc (QhT #[QhU .i64 4,QhX os[x.toNat].t,QhR os[x.toNat].ra os[x.toNat].r.length os[x.toNat].rcap] 37)) w.heap.size [QhR (some {block:=b,off:=off}) os.length ocap,QhR ra rs.length rcap,QhR wa ws.length wcap,QhR da ds.length dcap] 27:=(Blk.new w _ _).alloc _;have hO0:=World.ownsRow_lit (e:=3) (size:=1) (base:=w.heap.size+2) ((w.alloc (QhT #[QhR (some {block:=b,off:=off}) os.length ocap,QhR ra rs.length rcap,QhR wa ws.length wcap,QhR da ds.length dcap] 27)).alloc (QhT #[QhU .i64 4,QhX os[x.toNat].t,QhR os[x.toNat].ra os[x.toNat].r.length os[x.toNat].rcap] 37)) #[] 0 (by simp) (QhW _) rfl;simp only[World.size_alloc]at hO0;clear c1 c2 c3 hsg hcp' soo';go_loopw [6,7] (fun v i wr=>∃k:Nat,k≤ds.length∧i=.int .i64 k∧Qa wr (w.heap.size+2) v (flt (ds.take k) x)∧Below w.heap.size w wr∧Blk wr w.heap.size [QhR (some {block:=b,off:=off}) os.length ocap,QhR ra rs.length rcap,QhR wa ws.length wcap,QhR da ds.length dcap] 27∧w.heap.size+2≤wr.heap.size) (fun _ i _=>ds.length-(intOf i).toNat)
  case atStart=>exact⟨0,QhW _,rfl,hO0,hB0.alloc (by simp;omega) _,hK0.alloc _,by simp⟩
  case round=>
   obtain⟨k,hk,rfl,hown,hb,hblk,hsz⟩:=hrel;clear hB0 hK0 hO0;have q3:=hblk.cell 3;simp only[Qh0,List.getElem?_cons_succ]at q3;by_cases hlt:k<ds.length
   ·obtain⟨b5,off5,rfl,hb5,e1,e2⟩:=hd.get hlt;have d1:=(hb.cell (p:=⟨b5,off5+k*2,none⟩) hb5).trans e1;have d2:=(hb.cell (p:=⟨b5,off5+k*2+1,none⟩) hb5).trans e2;clear e1 e2;have HF:=O1 ds x k hlt;have hfl:=O0 ds x k;by_cases hm:(ds[k].1 ==x)=true
    ·rw[if_pos hm]at HF;have HF':Hid (flt (ds.take (k+1)) x=flt (ds.take k) x++ [ds[k].2]):=HF;clear HF;obtain⟨va,vcap,rfl,-⟩:=hown.form;have hvA:(wr.alloc (QhT #[QhU .i64 ds[k].2] 3)).ownsRow (w.heap.size+2) 3 1 (.slice va (flt (ds.take k) x).length vcap) (flt (ds.take k) x).length ((flt (ds.take k) x).map (QhU .i64)):=World.ownsRow.alloc hown _;have hne:=hown.ne hblk (by decide);have hrow:=fun k' h'=>(hown.lt k' h').1;go_wp2_with (at_builtin;refine wpList_append_own_at _ rfl _ _ 24 rfl (w.heap.size+2) 3 i0 (.int .i64 0) 1 8 ((Cut.under_eq 24).trans Tryz.underlying24) hi' hz0 hz1 hz2 rfl (by decide) _ _ _ rfl hvA ⟨wr.heap.size,0,none⟩ 1 1 [.int .i64 ds[k].2] rfl rfl (cell_one_new _ _ _) ?c2 ?c3 ?c4 ?c5 ?_)
     case c2=>intro u hu;simp at hu;subst hu;rfl
     case c3=>unfold maxLen;omega
     case c4=>omega
     case c5=>simp;omega
     intro v' w2 hown2 hgr _ _;have hA:Below wr.heap.size wr (wr.alloc (QhT #[QhU .i64 ds[k].2] 3)):=(Below.refl _ _).alloc (QhS _) _;have hblk2:=(hblk.alloc (QhT #[QhU .i64 ds[k].2] 3)).grown hgr hne;have hb2:Below w.heap.size w w2:=(hb.trans (hA.mono hb.size)).trans (QJ hgr (QhV hb.size hA.size) (fun k' h'=>by have:=hrow k' h';omega));have hsz2:w.heap.size+2≤w2.heap.size:=QhV hsz (QhV hA.size hgr.size)
     have hown3:Hid (Qa w2 (w.heap.size+2) v' (flt (ds.take (k+1)) x)):=by
      show Qa _ _ _ _;rw[HF'.out];unfold Qa;simpa using hown2
     clear hown2 hgr hA hvA hne hrow;go_wp2;go_roundw
     case rel=>exact⟨k+1,by omega,by go_num,hown3.out,hb2,hblk2,hsz2⟩
     case measure=>simp[intOf];omega
    ·rw[if_neg hm]at HF;have hm':(ds[k].1 ==x)=false:=by simpa using hm
     have HF':Hid (Qa wr (w.heap.size+2) u6 (flt (ds.take (k+1)) x)):=by
      show Qa _ _ _ _;rw[HF];exact hown
     clear HF hm;go_wp2;go_roundw
     case rel=>exact⟨k+1,by omega,by go_num,HF'.out,hb,hblk,hsz⟩
     case measure=>simp[intOf];omega
   ·have hk2:k=ds.length:=by omega
    subst hk2;rw[List.take_length]at hown;have hNX:Hid (NX=flt ds x):=HNX.out;clear HNX;obtain⟨va,vcap,rfl,hseg,-⟩:=hown.form;have hrow:=fun k' h'=>(hown.lt k' h').1;go_wp2;go_ret;refine⟨_,rfl,va,vcap,⟨?_,?_,hb,fun r _ hr hm y hy=>?_⟩⟩
    ·rw[hNX.out];rfl
    ·rw[hNX.out];exact hseg
    ·subst hy;intro e;have h1:=hrow y.block rfl;have h2:=hr y.block e.symm;omega
 ·rw[if_neg k4]at HN;have g4:(os[x.toNat].k ==4)=false:=by simpa using k4
  subst HN;clear h3' k3 k4;go_enter (Cut.func_of Tryz.func117 rfl),Tryz.ntmps117;go_wp2;go_ret;have hb3:Below w.heap.size w _:=((Below.refl _ w).alloc (QhS _) (QhT #[QhR (some {block:=b,off:=off}) os.length ocap,QhR ra rs.length rcap,QhR wa ws.length wcap,QhR da ds.length dcap] 27)).alloc (by simp) (QhT #[QhU .i64 os[x.toNat].k,QhX os[x.toNat].t,QhR os[x.toNat].ra os[x.toNat].r.length os[x.toNat].rcap] 37);exact⟨_,rfl,os[x.toNat].ra,os[x.toNat].rcap,⟨rfl,hsg.below hb3 (QhS _),hb3,fun r q _=>Hav.out r q⟩⟩
structure Tr (h:Hp):Prop where
 n60:h.os.length≤60
 weak:∀(i:Nat) (hi:i<h.os.length),h.os[i].k=3→1≤h.os[i].r.length
 cap:∀(i:Nat) (hi:i<h.os.length),h.os[i].r.length≤h.os[i].rcap
 nx:∀x,∀z∈nextP (h.os.map Ob.p) h.ds x,z<h.os.length
 nl:∀x,(nextP (h.os.map Ob.p) h.ds x).length≤1048576
theorem Qae (h:Hp)(base F:Nat)(v0:Value)(l0:List Int)(w:World)(hh:Qj w h)(hs:ZV h)(ht:Tr h)(hv:Qa w base v0 l0)(hb:base≤w.heap.size)(hav:QM h v0.ownBlock)(hpl:Qr h.os.length l0)(hF:h.os.length≤F):
 Calls Cut.prog 86 #[h.v,v0] w fun e w'=>∃v',e=.returned v'∧Qa w' base v' (traceF (h.os.map Ob.p) h.ds F 0 l0)∧Qr h.os.length (traceF (h.os.map Ob.p) h.ds F 0 l0)∧w.grownBy w' v0.ownBlock∧(v'.ownBlock=v0.ownBlock∨∃g,v'.ownBlock=some g∧w.heap.size≤g):=by
 have hn60:=ht.n60;generalize hR:traceF (h.os.map Ob.p) h.ds F 0 l0=R;have HR:Hid (traceF (h.os.map Ob.p) h.ds F 0 l0=R):=hR;clear hR;obtain⟨a0,cap0,rfl,-⟩:=hv.form;go_enter (Cut.func_of Tryz.func86 rfl),Tryz.ntmps86;simp only[Hp.v];go_wp2;have hB0:Below w.heap.size w (w.alloc (QhT #[QhR h.oa h.os.length h.ocap,QhR h.ra h.rs.length h.rcap,QhR h.wa h.ws.length h.wcap,QhR h.da h.ds.length h.dcap] 27)):=(Below.refl _ _).alloc (QhS _) _;have hK0:=Blk.new w [QhR h.oa h.os.length h.ocap,QhR h.ra h.rs.length h.rcap,QhR h.wa h.ws.length h.wcap,QhR h.da h.ds.length h.dcap] 27;go_loopw [1,5] (fun v i wr=>∃(k f:Nat) (l:List Int),i=.int .i64 k∧k≤h.os.length∧Qa wr base v l∧Qr h.os.length l∧traceF (h.os.map Ob.p) h.ds f k l=R∧h.os.length≤k+f∧Qj wr h∧QM h v.ownBlock∧w.grownBy wr (QhR a0 l0.length cap0).ownBlock∧(v.ownBlock=(QhR a0 l0.length cap0).ownBlock∨∃g,v.ownBlock=some g∧w.heap.size≤g)∧Blk wr w.heap.size [QhR h.oa h.os.length h.ocap,QhR h.ra h.rs.length h.rcap,QhR h.wa h.ws.length h.wcap,QhR h.da h.ds.length h.dcap] 27) (fun _ i _=>h.os.length-(intOf i).toNat)
 case atStart=>exact⟨0,F,l0,rfl,QhW _,hv.below hB0 (QhS _),hpl,HR.out,by omega,hh.below hB0 (QhS _),hav,Jd hB0 (QhS _) _,Or.inl rfl,hK0⟩
 case round=>
  obtain⟨k,f,l,rfl,hkn,hown,hpl2,htr,hkf,hin,hav2,hgr,hob,hblk⟩:=hrel;clear hB0 hK0 hv hav hh hpl;have HT:Hid (traceF (h.os.map Ob.p) h.ds f k l=R):=htr;clear htr;have hll:=hpl2.len;obtain⟨va,vcap,rfl,hseg,-⟩:=hown.form;by_cases hlt:k<l.length
  ·obtain⟨f',rfl⟩:∃f',f=f'+1:=⟨f-1,by omega⟩;have hx:=hpl2.rng l[k] (Qh2 hlt)
   have HT2:Hid (traceF (h.os.map Ob.p) h.ds f' (k+1) (putAll l (nextP (h.os.map Ob.p) h.ds l[k]))=R):=by
    have:=HT.out;unfold traceF at this;rw[if_pos hlt]at this;have e:l.getD k 0=l[k]:=by simp[List.getD,Qh4 hlt]
    rw[e]at this;exact this
   obtain⟨b,off,rfl,hbw,c1⟩:=hseg.get hlt;obtain⟨x0,x1,x2,x3⟩:=Qu hblk;have hdr:Below wr.heap.size wr wr.drew:=(Below.refl _ _).drew;have c2:=QeO h l[k] wr.drew (hin.below hdr (QhS _)) hs hx.1 hx.2 ht.weak ht.cap;simp only[Hp.v]at c2;have hi1:(k:Int)<(l.length:Int):=by omega
   have hnx:=ht.nx l[k];have hnl:=ht.nl l[k];generalize nextP (h.os.map Ob.p) h.ds l[k]=nx at c2 HT2 hnx hnl;have hkn2:k<h.os.length:=by omega
   clear HT;go_wp2_with fail;go_region_with (go_at_call 117;refine c2.mono ?_;rintro e w1 ⟨nv,rfl,na,ncap,⟨rfl,hnseg,hnb,hnav⟩⟩)
   all_goals
    have hst:=hdr.trans hnb;have hown1:=hown.below hst (QhS _);have hin1:=hin.below hst (QhS _);have hblk1:=hblk.below hst hblk.lt;have hgr1:=Z4 hgr (Jd hst (QhS _) _);have hav1:=hnav _ hav2 (fun g e=>(hown.lt g e).2);have hws:w.heap.size≤w1.heap.size:=hgr1.size;clear hnav hst hnb hown hin hblk hgr hdr x0 x1 x2 x3 c1 c2 hseg;go_wp2;go_loopw [1,7] (fun v i wi=>∃(j:Nat),i=.int .i64 j∧j≤nx.length∧Qa wi base v (putAll l (nx.take j))∧Qr h.os.length (putAll l (nx.take j))∧Qj wi h∧QM h v.ownBlock∧w.grownBy wi (QhR a0 l0.length cap0).ownBlock∧(v.ownBlock=(QhR a0 l0.length cap0).ownBlock∨∃g,v.ownBlock=some g∧w.heap.size≤g)∧Blk wi w.heap.size [QhR h.oa h.os.length h.ocap,QhR h.ra h.rs.length h.rcap,QhR h.wa h.ws.length h.wcap,QhR h.da h.ds.length h.dcap] 27∧Qi wi na nx∧AvI na nx.length v.ownBlock) (fun _ i _=>nx.length-(intOf i).toNat)
    case atStart=>exact⟨0,rfl,QhW _,hown1,hpl2,hin1,hav2,hgr1,hob,hblk1,hnseg,hav1⟩
    case round=>
     obtain⟨j,rfl,hjn,hown,hplj,hin,hav3,hgr,hob2,hblk,hseg2,hav4⟩:=hrel;clear hown1 hin1 hav2 hgr1 hob hblk1 hnseg hav1;obtain⟨va,vcap,rfl,-⟩:=hown.form;by_cases hj:j<nx.length
     ·obtain⟨b6,off6,rfl,hb6,d1⟩:=hseg2.get hj;have hpj:=hplj.len;have HP:Hid (putAll l (nx.take (j+1))=put (putAll l (nx.take j)) nx[j]):=Pv l nx j hj;have hz:=hnx nx[j] (Qh2 hj);have c3:=K7 base _ (putAll l (nx.take j)) nx[j] wr hown (by have:=hgr.size;omega) (by omega);go_wp2_with fail;refine c3.mono ?_;rintro e w2 ⟨v',rfl,hown',hg',hat⟩;have hob':=QaA hob2 hat hgr.size;have hgr':=Qeh hgr hg' hob2;have hblk':=hblk.grown hg' (hown.ne hblk (by decide));have hin':=hin.grown hg' hav3;have hseg':=hseg2.grown hg' hav4
      have hav3':QM h v'.ownBlock:=by
       rcases hat with e|⟨g,e,hge⟩
       ·rw[e];exact hav3
       ·rw[e];exact hin.av hge
      have hav4':AvI (some ⟨b6,off6,none⟩) nx.length v'.ownBlock:=by
       rcases hat with e|⟨g,e,hge⟩
       ·rw[e];exact hav4
       ·rw[e];exact hseg2.av hge
      have hpl':Hid (Qr h.os.length (putAll l (nx.take (j+1)))):=by
       show Qr _ _;rw[HP.out];exact hplj.put hz
      have hown2:Hid (Qa w2 base v' (putAll l (nx.take (j+1)))):=by
       show Qa _ _ _ _;rw[HP.out];exact hown'
      clear c3 hown hplj hin hav3 hgr hob2 hblk hseg2 hav4 hat hg' d1 hown';go_wp2;go_roundw
      case rel=>exact⟨j+1,by go_num,by omega,hown2.out,hpl'.out,hin',hav3',hgr',hob',hblk',hseg',hav4'⟩
      case measure=>simp[intOf];omega
     ·have ej:nx.take j=nx:=Qh3 (by omega)
      have hown2:Hid (Qa wr base (QhR va (putAll l (nx.take j)).length vcap) (putAll l nx)):=by
       show Qa _ _ _ _;rw[ej]at hown⊢;exact hown
      rw[ej]at hplj;have hjd:decide ((j:Int)<(nx.length:Int))=false:=by simp;omega
      clear ej hown;go_wp2;go_roundw
      case rel=>exact⟨k+1,f',_,by go_num,by omega,hown2.out,hplj,HT2.out,by omega,hin,hav3,hgr,hob2,hblk⟩
      case measure=>simp[intOf];omega
  ·have e:R=l:=by
    have:=HT.out;rw[←this]
    cases f with
    |zero=>rfl
    |succ f=>unfold traceF;rw[if_neg hlt]
   have hnk:decide ((k:Int)<(l.length:Int))=false:=by simp;omega
   go_wp2;go_ret;exact⟨_,rfl,by rw[e];exact hown,by rw[e];exact hpl2,hgr,hob⟩
end
end Go.Proofs.YtcpnkpogebjieaaGreat
