/- The laws' own marks: in a heap that the law made. Only its own blocks turn. -/
import Derived.Test.YtcpnkpogebjieaaGreatG11Mk1
import Derived.RangeFuncFrom
import Derived.RangeFuncBox
import Derived.RangeFuncLeaves
import Derived.Shelf.Abstract
import Derived.WalkKit
import Derived.OwnWalkIn
import Derived.TacticsInMore
import Derived.LoopNIn
import Derived.LoopIn
import Derived.Maps.AppendAt
open Go.Value renaming slice→Qhp,int→Qhs,string→Qhw
open Nat renaming le_refl→Qhq,le_trans→Qht,lt_of_lt_of_le→Qhu,pow_lt_pow_right→Qhx,testBit_two_pow→Qhy
open Go.Obj renaming cells→Qhr
open Go.World renaming putObj_heap_other→Qhv,putObj_heap_same→QhA
open List renaming getElem?_cons_zero→Qhz
set_option maxHeartbeats 1600000
set_option maxRecDepth 100000
namespace Go.Proofs.YtcpnkpogebjieaaGreat
section
open Go.RowKit
structure Rg (lo hi:Nat) (w w':World):Prop where
 os:w'.os=w.os
 tape:w'.tape=w.tape
 output:w'.output=w.output
 size:w.heap.size≤w'.heap.size
 block:∀k,k<w.heap.size→(k<lo∨hi≤k)→w'.heap[k]? =w.heap[k]?
theorem Rg.refl (lo hi:Nat)(w:World):Rg lo hi w w:=⟨rfl,rfl,rfl,Qhq _,fun _ _ _=>rfl⟩
theorem Rg.trans {lo hi:Nat}{a b c:World}(h:Rg lo hi a b)(k:Rg lo hi b c):Rg lo hi a c:=
 ⟨k.os.trans h.os,k.tape.trans h.tape,k.output.trans h.output,Qht h.size k.size,fun i hi hr=>(k.block i (Qhu hi h.size) hr).trans (h.block i hi hr)⟩
theorem Rg.gb {lo hi g:Nat}{w w':World}(h:w.grownBy w' (some g))(h1:lo≤g)(h2:g<hi):Rg lo hi w w':=
 ⟨h.os,h.tape,h.output,h.size,fun k hk hr=>h.block k hk (fun e=>by simp at e;omega)⟩
theorem Rg.below {lo hi:Nat}{w w':World}(h:Rg lo hi w w')(hl:lo≤w.heap.size):Below lo w w':=
 ⟨h.os,h.tape,h.output,h.size,fun k hk=>h.block k (by omega) (Or.inl hk)⟩
theorem Rg.wide {lo hi lo' hi':Nat}{w w':World}(h:Rg lo hi w w')(h1:lo'≤lo)(h2:hi≤hi'):Rg lo' hi' w w':=
 ⟨h.os,h.tape,h.output,h.size,fun k hk hr=>h.block k hk (by omega)⟩
structure Mk (w:World) (go hi:Nat) (l:List Ob):Prop where
 cells:∃cs,Blk w go cs 37∧cs.length=l.length*3∧∀i (h:i<l.length),cs[i*3+2]? =some (.slice l[i].ra l[i].r.length l[i].rcap)
 parts:∀i (h:i<l.length),∃g cs,l[i].ra=some ⟨g,0,none⟩∧go<g∧g<hi∧l[i].rcap=l[i].r.length∧Blk w g cs 3∧cs.length=l[i].r.length
theorem Mk.below {w w':World}{go hi:Nat}{l:List Ob}{B:Nat}(h:Mk w go hi l)(hb:Below B w w')(hB:w.heap.size≤B):Mk w' go hi l:=by
 refine⟨?_,fun i hi=>?_⟩
 ·obtain⟨cs,h1,h2⟩:=h.cells
  exact⟨cs,h1.below hb (Qhu h1.lt hB),h2⟩
 ·obtain⟨g,cs,h1,h2,h3,h4,h5,h6⟩:=h.parts i hi
  exact⟨g,cs,h1,h2,h3,h4,h5.below hb (Qhu h5.lt hB),h6⟩
theorem Mk.store {w:World}{go hi:Nat}{l:List Ob}(h:Mk w go hi l)(j:Nat)(v:Value)(hj:j%3≠2):Mk (w.setCell ⟨go,j,none⟩ v) go hi l:=by
 refine⟨?_,fun i hi=>?_⟩
 ·obtain⟨cs,h1,h2,h3⟩:=h.cells
  refine⟨_,h1.store j v,by simpa using h2,fun i hi=>?_⟩
  rw[List.getElem?_set_ne (by omega)]
  exact h3 i hi
 ·obtain⟨g,cs,h1,h2,h3,h4,h5,h6⟩:=h.parts i hi
  exact⟨g,cs,h1,h2,h3,h4,h5.other _ _ (by dsimp only;omega),h6⟩
theorem Mk.part {w w':World}{go hi:Nat}{l:List Ob}(h:Mk w go hi l){g:Nat}{cs cs':List Value}(hg:w.grownBy w' (some g))(hgo:go<g)(hb:Blk w g cs 3)(hb':Blk w' g cs' 3)(hl:cs'.length=cs.length):Mk w' go hi l:=by
 refine⟨?_,fun i hi=>?_⟩
 ·obtain⟨c,h1,h2⟩:=h.cells
  exact⟨c,h1.grown hg (fun e=>by simp at e;omega),h2⟩
 ·obtain⟨x,c,h1,h2,h3,h4,h5,h6⟩:=h.parts i hi
  by_cases e:x=g
  ·subst e
   have e1:c=cs:=by
    unfold Blk at h5 hb
    rw[h5]at hb
    simpa using hb
   subst e1
   exact⟨x,cs',h1,h2,h3,h4,hb',by omega⟩
  ·exact⟨x,c,h1,h2,h3,h4,h5.grown hg (fun q=>e (by simpa using q.symm)),h6⟩
end
section
open Go Go.RowKit
structure Chg (M:Nat→Prop) (w w':World):Prop where
 os:w'.os=w.os
 tape:w'.tape=w.tape
 output:w'.output=w.output
 size:w.heap.size≤w'.heap.size
 block:∀k,k<w.heap.size→¬M k→w'.heap[k]? =w.heap[k]?
def Z3 (M:Nat→Prop)(w w':World)(k:Nat):Prop:=M k∨(w.heap.size≤k∧k<w'.heap.size)
def VQ {α:Type}(enc:α→Array Value)(F:Fence)(n:Nat)(P:Program)(g:Nat)(lb:Array Value)(xs:List α)(M0:Nat→Prop)(n0:Nat)(w:World):Prop:=
 ∀(l:Nat) (J:(Nat→Prop)→List α→World→Prop) (W:World),Below w.heap.size w W→
  (∀M pre A B,J M pre A→Chg M A B→J (Z3 M A B) pre B)→
  (∀M pre x W1,J M pre W1→pre++ [x]<+:xs→YieldAt F (n-1) P l (enc x) W1 fun e W'=>
    e=.returned (.bool true)∧J M (pre++ [x]) W'∧(∀k,M k→W'.heap[k]? =W1.heap[k]?)∧Below n0 W1 W')→
  J M0 [] W→
  CallsIn F n P g (#[.func (.yield l) #[] #[]]++lb) W fun e W'=>(∃v,e=.returned v)∧∃M,J M xs W'
def Vw {α:Type}(n0:Nat)(I:(Nat→Prop)→List α→World→Prop)(M:Nat→Prop)(xs:List α)(W:World):Exit→Act→World→Prop
 | .normal,_,W'=>KeepsOthers W W'∧(∀k,M k→W'.heap[k]? =W.heap[k]?)∧Below n0 W W'∧I M xs W'
 | .ret,_,_=>False
 | .exit _,_,_=>False
 | .goto _,_,_=>False
 | .panic _,_,_=>False
 | .outgrown,_,_=>False
theorem Pf {α:Type}{enc:α→Array Value}{F:Fence}{n:Nat}{P:Program}{g:Operand}{ps:Array Tmp}{assign body:Code}{Q:Exit→Act→World→Prop}{a:Act}{w:World}
 (hro:F.round=none)(h1:1≤n){gf:Nat}{lb:Array Value}(hg:a.eval g=.func (.func gf) #[] lb)(hFg:F.fn gf)(eg:∀args w,(callFunc gf args).run P w=.ok (.enter gf args) w)
 {xs:List α}{M0:Nat→Prop}{n0:Nat}(hn0:n0≤w.heap.size)(hM0:∀k,M0 k→k<w.heap.size)(hseq:VQ enc F (n-1) P gf lb xs M0 n0 w)(hps:∀x,ps.size=(enc x).size)
 (I:(Nat→Prop)→List α→World→Prop)
 (hIc:∀M pre A B,I M pre A→Chg M A B→I (Z3 M A B) pre B)
 (hIo:∀M pre A (k:Nat) (o o':Obj),I M pre A→w.heap.size≤k→A.heap[k]? =some o→o.isCells=false→I M pre (A.putObj k o'))
 (hIa:∀M pre A (o:Obj),I M pre A→I M pre (A.alloc o))
 (h0:I M0 [] w)(a1:α→Act)
 (hassign:∀(l:Nat) (x:α) (W:World) (K:Act→World→Prop),K (a1 x) W→
   assign.wpIn (F.inRound l) (n-1-1) P (Exit.then K (fun _ _ _=>False)) {tmps:=(ps.zip (enc x)).foldl (fun t (p,v)=>t.setIfInBounds p v) a.tmps,defers:=[]} W)
 (hbody:∀(l:Nat) (M:Nat→Prop) (pre:List α) (x:α) (W:World),I M pre W→pre++ [x]<+:xs→body.wpIn (F.inRound l) (n-1-1) P (Vw n0 I M (pre++ [x]) W) (a1 x) W)
 (hdone:∀(D:Nat) (M:Nat→Prop) (W:World),w.heap.size≤D→I M xs W→W.heap[D]? =some (.deferred (some []))→Q .normal {a with defers:={target:=.collected D,args:=#[]}::a.defers} W):
 (Code.rangeFunc g ps assign body).wpIn F n P Q a w:=by
 refine wpIn_rangeFunc ?_
 intro fn hfn
 rw[hro]
 obtain⟨rec,hrec⟩:∃rec:LoopState→Option Code→Loop,rec=fun st pe=>{state:=st,pending:=pe,fn,tmps:=a.tmps,params:=ps,assign,body,defers:=w.heap.size}:=⟨_,rfl⟩
 obtain⟨W1,hW1⟩:∃W1,(w.alloc (.deferred (some []))).alloc (.loop (rec .ready none))=W1:=⟨_,rfl⟩
 have hL1:W1.heap[w.heap.size+1]? =some (.loop (rec .ready none)):=by
  rw[←hW1];have:=World.alloc_heap_new (w.alloc (.deferred (some []))) (.loop (rec .ready none));rwa[World.size_alloc]at this
 have hK1:W1.heap[w.heap.size]? =some (.deferred (some [])):=by
  rw[←hW1];exact(Below.heap_alloc _ _ _ (by simp)).trans (World.alloc_heap_new w _)
 have hb1:Below w.heap.size w W1:=by
  rw[←hW1];exact((Below.refl _ w).alloc (Qhq _) _).alloc (by simp) _
 refine⟨w.heap.size+1,[{target:=.collected w.heap.size,args:=#[]}],W1,{target:=.fn (.func gf) lb,args:=#[.func (.yield (w.heap.size+1)) #[] #[]]},W1,gf,
  #[.func (.yield (w.heap.size+1)) #[] #[]]++lb,W1,?_,?_,?_,?_,fun _=>h1,?_⟩
 ·rw[←hW1,hrec];exact run_enterLoop_outer _ _ _ _ _
 ·simp only[resolve,hg]
  simp[go_sem]
 ·intro f' hf';simp[Target.leads]at hf';subst hf';exact hFg
 ·simp[invoke,go_sem,eg]
 ·refine(hseq (w.heap.size+1)
   (fun M pre W=>I M pre W∧¬M (w.heap.size+1)∧¬M w.heap.size∧W.heap[w.heap.size+1]? =some (.loop (rec .ready none))∧W.heap[w.heap.size]? =some (.deferred (some [])))
   W1 hb1 ?_ ?_ ?_).mono ?_
  ·rintro M pre A B ⟨hi,m1,m2,hl,hk⟩ hc
   have l1:=(Array.getElem?_eq_some_iff.1 hl).1
   have l2:=(Array.getElem?_eq_some_iff.1 hk).1
   exact⟨hIc M pre A B hi hc,fun h=>by rcases h with h|h;exact m1 h;omega,fun h=>by rcases h with h|h;exact m2 h;omega,(hc.block _ l1 m1).trans hl,(hc.block _ l2 m2).trans hk⟩
  ·rintro M pre x W ⟨hi,m1,m2,hl,hk⟩ hlen
   have hlt:w.heap.size+1<W.heap.size:=(Array.getElem?_eq_some_iff.1 hl).1
   have hy:=run_yield (P:=P) (args:=(enc x)) hl (by rw[hrec];exact(hps x).symm)
   rw[hrec]at hy
   refine⟨fn,_,assign,body,hy,roundIn_of_wpIn hfn (hassign _ x W _ ⟨_,run_beginRound hl (by rw[hrec]),?_⟩)⟩
   have hl2:(W.putObj (w.heap.size+1) (.loop {rec .ready none with state:=.busy})).heap[w.heap.size+1]? =some (.loop {rec .ready none with state:=.busy}):=QhA hlt
   have hk2:(W.putObj (w.heap.size+1) (.loop {rec .ready none with state:=.busy})).heap[w.heap.size]? =some (.deferred (some [])):=(Qhv (by omega)).trans hk
   refine wpIn_mono (hbody _ M pre x _ (hIo M pre _ _ _ _ hi (by omega) hl rfl) hlen) ?_
   rintro e a3 W3 hp
   cases e with
   |normal=>
    obtain⟨hk3,hm3,hb3,hi3⟩:=hp
    have hl3:=hk3.same _ _ hl2 rfl
    have hr:=run_endRound (P:=P) none hl3
    have hlt3:w.heap.size+1<W3.heap.size:=(Array.getElem?_eq_some_iff.1 hl3).1
    rw[hrec]at hr
    refine⟨_,_,hr,rfl,⟨hIo M _ _ _ _ _ hi3 (by omega) hl3 rfl,m1,m2,?_,?_⟩,fun k hk=>?_,?_⟩
    ·rw[hrec];exact QhA hlt3
    ·exact(Qhv (by omega)).trans (hk3.same _ _ hk2 rfl)
    ·have hne:k≠w.heap.size+1:=fun e=>m1 (e▸hk)
     rw[Qhv (by omega),hm3 k hk,Qhv (by omega)]
    ·have q1:Below n0 W (W.putObj (w.heap.size+1) (.loop {rec .ready none with state:=.busy})):=belowK_b hn0 W _ _ _ (by omega) hl rfl rfl
     have q2:=belowK_b hn0 W3 (w.heap.size+1) _ (.loop {rec .ready none with state:=.ready,pending:=none}) (by omega) hl3 rfl rfl
     rw[hrec]at q2
     exact(q1.trans hb3).trans q2
   |ret=>exact hp.elim
   |exit id=>exact hp.elim
   |goto t=>exact hp.elim
   |panic ch=>exact hp.elim
   |outgrown=>exact hp.elim
  ·refine⟨?_,fun h=>by have:=hM0 _ h;omega,fun h=>by have:=hM0 _ h;omega,hL1,hK1⟩
   rw[←hW1];exact hIa _ _ _ _ (hIa _ _ _ _ h0)
  ·rintro e W2 ⟨⟨v,rfl⟩,M,hi,m1,m2,hl,hk⟩
   exact⟨none,_,by have:=run_endLoop (P:=P) hl (by rw[hrec];simp);rw[hrec]at this;exact this,hdone _ M _ (Qhq _) (hIo M _ _ _ _ _ hi (by omega) hl rfl) ((Qhv (by omega)).trans hk)⟩
end
section
open Go.RowKit
theorem Qd5:(Cut.prog.info? 140).map (fun i=>(i.zero,i.size,i.bytes))=some (some (.int .u64 0),1,8):=by kernel_rfl
theorem Qe0 (n:Nat)(w:World)(hn:n≤60):
 Calls Cut.prog 92 #[.int .i64 n] w fun e w'=>∃g,e=.returned (.agg #[.slice (some ⟨g,0,none⟩) ((n+63)/64) ((n+63)/64)])∧Below w.heap.size w w'∧w.heap.size≤g∧Blk w' g (List.replicate ((n+63)/64) (.int .u64 0)) 140:=by
 obtain⟨i0,hi,hz0,hz1,hz2⟩:=info_parts Qd5
 go_enter (Cut.func_of Tryz.func92 rfl),Tryz.ntmps92
 go_wp2_with (at_make;refine wpList_make_full _ rfl _ _ 115 rfl w.heap.size 140 i0 (.int .u64 0) 1 ((Cut.under_eq 115).trans Tryz.underlying115) hi hz0 hz1 .i64 .i64 _ _ ((n+63)/64) rfl rfl ?c0 ?c0' ?c1 ?c2 ?c3 ?_)
 case c0=>omega
 case c0'=>omega
 case c1=>rw[hz2];omega
 case c2=>unfold maxLen;omega
 case c3=>simp
 intro w1 hown hgr
 have hb0:=U7 hgr
 have hk:=Px hown
 rw[toList_madeCells_one]at hk
 have hB:Below w.heap.size w w1:=((Below.refl _ w).alloc (Qhq _) _).trans (hb0.mono (by simp))
 obtain⟨hc,hf⟩:=QbH hb0
 simp at hc hf
 clear hown hgr hb0
 go_wp2
 refine bodyPost_ret (v:=.agg #[.slice (some ⟨w.heap.size+1,0,none⟩) ((n+63)/64) ((n+63)/64)]) ?_ rfl ⟨_,rfl,?_,?_,?_⟩
 ·simp[results,Tryz.results92,go_sem,hc]
 ·(repeat refine Below.setCell ?_ (by dsimp only;omega) _)
  exact hB
 ·omega
 ·(repeat refine Blk.other ?_ _ _ (by dsimp only;omega))
  exact hk
theorem Qbm (n:Nat)(h:n<64):IntKind.u64.wrap (2^n)=((2^n:Nat):Int):=by
 have h1:2^n<2^64:=Qhx (by omega) h
 have h2:((2:Int)^n)=((2^n:Nat):Int):=by simp
 rw[IntKind.wrap_u64,h2]
 have h3:(2:Nat)^64=18446744073709551616:=by decide
 rw[h3]at h1
 generalize (2:Nat)^n=P at h1
 omega
theorem QbA (X n:Nat):(X &&& 2^n=0)↔X.testBit n=false:=by
 constructor
 ·intro h
  have h1:(X &&& 2^n).testBit n=false:=by rw[h];simp
  rw[Nat.testBit_and,Nat.testBit_two_pow_self]at h1
  simpa using h1
 ·intro h
  apply Nat.eq_of_testBit_eq
  intro i
  rw[Nat.testBit_and,Qhy,Nat.zero_testBit]
  by_cases e:n=i
  ·subst e;simp[h]
  ·simp[e]
theorem Qfk (X n:Nat)(h:X.testBit n=true):X|||2^n=X:=by
 apply Nat.eq_of_testBit_eq
 intro i
 rw[Nat.testBit_or,Qhy]
 by_cases e:n=i
 ·subst e;simp[h]
 ·simp[e]
theorem QbB (X n:Nat)(hX:X<18446744073709551616)(hn:n<60):(bits BinOp.and IntKind.u64 (X:Int) (IntKind.u64.wrap (2^n))!=0)=X.testBit n:=by
 have h1:2^n<2^64:=Qhx (by omega) (by omega)
 have h3:(2:Nat)^64=18446744073709551616:=by decide
 rw[Qbm n (by omega),u64_and_nat X (2^n) hX (by omega)]
 have:=QbA X n
 cases hb:X.testBit n with
 |false=>rw[this.2 hb];rfl
 |true=>
  have hne:X &&& 2^n≠0:=fun e=>by rw[this.1 e]at hb;cases hb
  rw[bne_iff_ne]
  omega
theorem Qfl (X n:Nat)(hX:X<18446744073709551616)(hn:n<60):bits BinOp.or IntKind.u64 (X:Int) (IntKind.u64.wrap (2^n))=((X|||2^n:Nat):Int):=by
 have h1:2^n<2^64:=Qhx (by omega) (by omega)
 have h3:(2:Nat)^64=18446744073709551616:=by decide
 rw[Qbm n (by omega),u64_or_nat X (2^n) hX (by omega)]
theorem Qfm (X n:Nat)(hX:X<18446744073709551616)(hn:n<60):X|||2^n<18446744073709551616:=by
 have h1:2^n<2^64:=Qhx (by omega) (by omega)
 have h3:(2:Nat)^64=18446744073709551616:=by decide
 rw[←h3]at hX⊢
 exact Nat.or_lt_two_pow hX h1
theorem Qbv (g X n:Nat)(w:World)(hn:n<60)(hX:X<18446744073709551616)(hb:Blk w g [.int .u64 X] 140):
 Calls Cut.prog 119 #[.agg #[.slice (some ⟨g,0,none⟩) 1 1],.int .i64 n] w fun e w'=>e=.returned (.bool !X.testBit n)∧Blk w' g [.int .u64 ((X|||2^n:Nat):Int)] 140∧w.grownBy w' (some g):=by
 have c0:=hb.cell 0
 simp only[Qhz]at c0
 have f0:=hb.free 0
 have hlt:=hb.lt
 have hd1:n/64=0:=by omega
 have hd2:(n:Int)/64=0:=by omega
 have hd3:n%64=n:=by omega
 have hd4:(n:Int)%64=n:=by omega
 have ha:=QbB X n hX hn
 have HO:Hid (bits BinOp.or IntKind.u64 (X:Int) (IntKind.u64.wrap (2^n))=((X|||2^n:Nat):Int)):=Qfl X n hX hn
 have HB:Hid (X.testBit n=true→X|||2^n=X):=Qfk X n
 have hA:Below w.heap.size w (w.alloc (Qhr #[Qhp (some ⟨g,0,none⟩) 1 1] 117)):=(Below.refl _ _).alloc (Qhq _) _
 have hbA:=hb.alloc (Qhr #[Qhp (some ⟨g,0,none⟩) 1 1] 117)
 cases hbit:X.testBit n with
 |true=>
  rw[hbit]at ha
  have HE:=HB.out hbit
  have HE':Hid (X|||2^n=X):=HE
  clear hbit HE
  go_enter (Cut.func_of Tryz.func119 rfl),Tryz.ntmps119
  go_wp2
  go_ret
  exact⟨rfl,by rw[HE'.out];exact hbA,Z8 hA (Qhq _) _⟩
 |false=>
  rw[hbit]at ha
  clear hbit
  have hst:=(hb.store 0 (.int .u64 (bits BinOp.or IntKind.u64 (X:Int) (IntKind.u64.wrap (2^n))))).alloc (Qhr #[Qhp (some ⟨g,0,none⟩) 1 1] 117)
  rw[HO.out]at hst
  have hg:w.grownBy ((w.setCell ⟨g,0,none⟩ (.int .u64 ((X|||2^n:Nat):Int))).alloc (Qhr #[Qhp (some ⟨g,0,none⟩) 1 1] 117)) (some g):=
   ZX (b:=w.setCell ⟨g,0,none⟩ (.int .u64 ((X|||2^n:Nat):Int))) ⟨rfl,rfl,rfl,by simp[World.setCell],fun k _ hk=>Below.heap_setCell _ _ _ _ (fun e=>hk (by rw[e]))⟩ (Z8 ((Below.refl _ _).alloc (Qhq _) _) (Qhq _) _)
  go_enter (Cut.func_of Tryz.func119 rfl),Tryz.ntmps119
  go_wp2
  go_ret
  rw[HO.out]
  exact⟨rfl,hst,hg⟩
structure Gr2 (w w':World) (r:Option Nat) (g:Nat):Prop where
 os:w'.os=w.os
 tape:w'.tape=w.tape
 output:w'.output=w.output
 size:w.heap.size≤w'.heap.size
 block:∀k,k<w.heap.size→some k≠r→k≠g→w'.heap[k]? =w.heap[k]?
theorem Gr2.refl (w:World)(r:Option Nat)(g:Nat):Gr2 w w r g:=⟨rfl,rfl,rfl,Qhq _,fun _ _ _ _=>rfl⟩
theorem Gr2.trans {a b c:World}{r:Option Nat}{g:Nat}(h:Gr2 a b r g)(k:Gr2 b c r g):Gr2 a c r g:=
 ⟨k.os.trans h.os,k.tape.trans h.tape,k.output.trans h.output,Qht h.size k.size,fun i hi hr hg=>(k.block i (Qhu hi h.size) hr hg).trans (h.block i hi hr hg)⟩
theorem Gr2.row {w w':World}{r:Option Nat}(h:w.grownBy w' r)(g:Nat):Gr2 w w' r g:=⟨h.os,h.tape,h.output,h.size,fun k hk hr _=>h.block k hk hr⟩
theorem Gr2.at_ {w w':World}{g:Nat}(h:w.grownBy w' (some g))(r:Option Nat):Gr2 w w' r g:=⟨h.os,h.tape,h.output,h.size,fun k hk _ hg=>h.block k hk (fun e=>hg (by simpa using e))⟩
theorem Gr2.ofBelow {w w':World}{B:Nat}(h:Below B w w')(hB:w.heap.size≤B)(r:Option Nat)(g:Nat):Gr2 w w' r g:=Gr2.row (Z8 h hB r) g
theorem Gr2.step {a b c:World}{r s:Option Nat}{g:Nat}(h:Gr2 a b r g)(k:Gr2 b c s g)(hs:s=r∨∃x,s=some x∧a.heap.size≤x):Gr2 a c r g:=by
 refine⟨k.os.trans h.os,k.tape.trans h.tape,k.output.trans h.output,Qht h.size k.size,fun i hi hr hg=>?_⟩
 refine(k.block i (Qhu hi h.size) ?_ hg).trans (h.block i hi hr hg)
 rcases hs with rfl|⟨x,rfl,hx⟩
 ·exact hr
 ·intro e;simp at e;omega
theorem Gr2.below {w w':World}{B g:Nat}{r:Option Nat}(h:Gr2 w w' r g)(hB:B≤w.heap.size)(hr:∀k,r=some k→B≤k)(hg:B≤g):Below B w w':=
 ⟨h.os,h.tape,h.output,h.size,fun k hk=>h.block k (by omega) (fun e=>by have:=hr k e.symm;omega) (by omega)⟩
theorem Blk.gr2 {w w':World}{B t g:Nat}{cs:List Value}{r:Option Nat}(h:Blk w B cs t)(hg:Gr2 w w' r g)(hr:r≠some B)(hB:B≠g):Blk w' B cs t:=by
 unfold Blk at *
 rw[hg.block B (lt_of_block h) (fun e=>hr e.symm) hB];exact h
theorem Qk.gr2 {w w':World}{a:Option Addr}{zs:List Int}{r:Option Nat}{g:Nat}(h:Qk w a zs)(hg:Gr2 w w' r g)(hr:AvI a zs.length r)(hb:AvI a zs.length (some g)):Qk w' a zs:=by
 intro hm
 obtain⟨b,off,h1,h2,h3⟩:=h hm
 exact⟨b,off,h1,Qhu h2 hg.size,fun i hi=>(World.cell?_of_block (w:=w) (hg.block b h2 (hr hm _ h1) (fun e=>hb hm _ h1 (by rw[e])))).trans (h3 i hi)⟩
theorem Qa.gr2 {w w':World}{base g:Nat}{v:Value}{zs:List Int}(h:Qa w base v zs)(hg:w.grownBy w' (some g))(hne:v.ownBlock≠some g):Qa w' base v zs:=by
 refine World.ownsRow.kept h hg ?_
 exact Or.inr hne
def U0 (X:Nat)(l:List Int):Prop:=X<18446744073709551616∧∀i:Nat,X.testBit i=decide ((i:Int)∈l)
theorem QbJ:U0 0 []:=⟨by omega,fun i=>by simp⟩
theorem QbI {X:Nat}{l:List Int}(h:U0 X l){n:Nat}(hn:n<60):U0 (X|||2^n) (put l n):=by
 refine⟨Qfm X n h.1 hn,fun i=>?_⟩
 rw[Nat.testBit_or,Qhy,h.2 i]
 have h0:¬((n:Int)<0):=by omega
 by_cases hm:(n:Int)∈l
 ·have e:put l n=l:=by simp[put,hm]
  rw[e]
  by_cases hi:n=i
  ·subst hi;simp[hm]
  ·simp[hi]
 ·have e:put l n=l++ [(n:Int)]:=by simp[put,hm,h0]
  rw[e]
  by_cases hi:n=i
  ·subst hi;simp
  ·have:¬((i:Int)=(n:Int)):=by omega
   simp[hi,this]
def Jv (w:World)(n g:Nat)(l:List Int):Prop:=0<n→∃X,Blk w g [.int .u64 (X:Nat)] 140∧U0 X l
theorem Pt (base g n:Nat)(v0:Value)(l0:List Int)(pa:Option Addr)(pcap:Nat)(ps:List Int)(w:World)(hn:n≤60)(hv:Qa w base v0 l0)(hb:base≤w.heap.size)(hgb:g<base)(hset:Jv w n g l0)(hpl:Qq n l0)(hp:Qk w pa ps)(hpl2:ps.length≤1048576)
 (hav:AvI pa ps.length v0.ownBlock)(hag:AvI pa ps.length (some g))(hlt:∀z∈ps,z<n):
 Calls Cut.prog 93 #[v0,.slice pa ps.length pcap,.agg #[.slice (some ⟨g,0,none⟩) ((n+63)/64) ((n+63)/64)]] w fun e w'=>∃v',e=.returned v'∧Qa w' base v' (putAll l0 ps)∧Qq n (putAll l0 ps)∧Jv w' n g (putAll l0 ps)∧Gr2 w w' v0.ownBlock g∧(v'.ownBlock=v0.ownBlock∨∃x,v'.ownBlock=some x∧w.heap.size≤x):=by
 obtain⟨i0,hi,hz0,hz1,hz2⟩:=info_parts Ja
 obtain⟨a0,cap0,rfl,-⟩:=hv.form
 go_enter (Cut.func_of Tryz.func93 rfl),Tryz.ntmps93
 go_wp2
 have hB0:Below w.heap.size w (w.alloc (Qhr #[Qhp (some ⟨g,0,none⟩) ((n+63)/64) ((n+63)/64)] 117)):=(Below.refl _ _).alloc (Qhq _) _
 have hK0:=Blk.new w [Qhp (some ⟨g,0,none⟩) ((n+63)/64) ((n+63)/64)] 117
 go_loopw [0,8,11] (fun v _ i wr=>∃(j:Nat),i=.int .i64 j∧j≤ps.length∧Qa wr base v (putAll l0 (ps.take j))∧Qq n (putAll l0 (ps.take j))∧Jv wr n g (putAll l0 (ps.take j))∧Gr2 w wr (Qhp a0 l0.length cap0).ownBlock g∧(v.ownBlock=(Qhp a0 l0.length cap0).ownBlock∨∃x,v.ownBlock=some x∧w.heap.size≤x)∧Qk wr pa ps∧AvI pa ps.length v.ownBlock∧Blk wr w.heap.size [Qhp (some ⟨g,0,none⟩) ((n+63)/64) ((n+63)/64)] 117) (fun _ _ i _=>ps.length-(intOf i).toNat)
 case atStart=>exact⟨0,rfl,Nat.zero_le _,hv.below hB0 (Qhq _),hpl,fun h=>by obtain⟨X,h1,h2⟩:=hset h;exact⟨X,h1.alloc _,h2⟩,Gr2.ofBelow hB0 (Qhq _) _ _,Or.inl rfl,hp.below hB0 (Qhq _),hav,hK0⟩
 case round=>
  obtain⟨j,rfl,hjn,hown,hplj,hsetj,hgr,hob,hseg,hav2,hblk⟩:=hrel
  clear hB0 hK0 hv hpl hset hp hav
  obtain⟨va,vcap,rfl,-⟩:=hown.form
  have hgl:=hgr.size
  by_cases hj:j<ps.length
  ·have HP:Hid (putAll l0 (ps.take (j+1))=put (putAll l0 (ps.take j)) ps[j]):=KU l0 ps j hj
   have hz:=hlt ps[j] (List.getElem_mem hj)
   have hpj:=hplj.len
   obtain⟨b6,off6,rfl,hb6,d1⟩:=hseg.get hj
   by_cases h0:ps[j]<0
   ·have e:put (putAll l0 (ps.take j)) ps[j]=putAll l0 (ps.take j):=by simp[put,h0]
    rw[e]at HP
    have hd:decide (0≤ps[j])=false:=by simp;omega
    have A1:Hid (Qa wr base (Qhp va (putAll l0 (ps.take j)).length vcap) (putAll l0 (ps.take (j+1)))):=by
     show Qa _ _ _ _
     rw[HP.out];exact hown
    have A2:Hid (Qq n (putAll l0 (ps.take (j+1)))):=by
     show Qq _ _
     rw[HP.out];exact hplj
    have A3:Hid (Jv wr n g (putAll l0 (ps.take (j+1)))):=by
     show Jv _ _ _ _
     rw[HP.out];exact hsetj
    clear hown hplj hsetj e
    go_wp2
    go_roundw
    case rel=>exact⟨j+1,by go_num,by omega,A1.out,A2.out,A3.out,hgr,hob,hseg,hav2,hblk⟩
    case measure=>simp[intOf];omega
   ·have hn0:0<n:=by omega
    have hm1:(n+63)/64=1:=by omega
    obtain⟨X,hX,hbits⟩:=hsetj hn0
    obtain⟨m,hm⟩:∃m:Nat,ps[j]=(m:Int):=⟨ps[j].toNat,by omega⟩
    rw[hm]at d1 HP hz h0
    have hm60:m<60:=by omega
    have hc0:=hblk.cell 0
    simp only[Qhz]at hc0
    rw[hm1]at hc0
    have c3:=Qbv g X m wr hm60 hbits.1 hX
    have hX2:=QbI hbits hm60
    have htb:=hbits.2 m
    have hng:=hown.ne hX (by decide)
    have hnb:=hown.ne hblk (by decide)
    have hgne:w.heap.size≠g:=by omega
    have hd0:decide (0≤(m:Int))=true:=by simp
    have hmn:m<n:=by omega
    clear hm hz hm1
    go_wp2_with fail
    refine c3.mono ?_
    rintro e w1 ⟨rfl,hX1,hg1⟩
    have hown1:=hown.gr2 hg1 hng
    have hgr1:=hgr.trans (Gr2.at_ hg1 _)
    have hseg1:=hseg.grown hg1 hag
    have hblk1:=hblk.grown hg1 (fun e=>hgne (by simpa using e.symm))
    have hs1:=hg1.size
    clear c3 hX d1 hc0
    by_cases hmem:(m:Int)∈putAll l0 (ps.take j)
    ·have e:put (putAll l0 (ps.take j)) m=putAll l0 (ps.take j):=by simp[put,hmem]
     rw[e]at HP hX2
     have hbt:X.testBit m=true:=by rw[htb];simpa using hmem
     have A1:Hid (Qa w1 base (Qhp va (putAll l0 (ps.take j)).length vcap) (putAll l0 (ps.take (j+1)))):=by
      show Qa _ _ _ _
      rw[HP.out];exact hown1
     have A2:Hid (Qq n (putAll l0 (ps.take (j+1)))):=by
      show Qq _ _
      rw[HP.out];exact hplj
     have A3:Hid (Jv w1 n g (putAll l0 (ps.take (j+1)))):=by
      show Jv _ _ _ _
      rw[HP.out];exact fun _=>⟨_,hX1,hX2⟩
     clear hown hown1 hplj hsetj e hmem htb hX1 hX2 hbits hng hnb
     go_wp2
     go_roundw
     case rel=>exact⟨j+1,by go_num,by omega,A1.out,A2.out,A3.out,hgr1,hob,hseg1,hav2,hblk1⟩
     case measure=>simp[intOf];omega
    ·have hneg:¬((m:Int)<0):=by omega
     have e:put (putAll l0 (ps.take j)) m=putAll l0 (ps.take j)++ [(m:Int)]:=by simp[put,hmem,hneg]
     have hbt:X.testBit m=false:=by rw[htb];simpa using hmem
     have A2:Hid (Qq n (putAll l0 (ps.take (j+1)))):=by
      show Qq _ _
      rw[HP.out];exact hplj.put (by omega)
     rw[e]at HP hX2
     have hvA:(w1.alloc (Qhr #[Qhs .i64 (m:Int)] 3)).ownsRow base 3 1 (.slice va (putAll l0 (ps.take j)).length vcap) (putAll l0 (ps.take j)).length ((putAll l0 (ps.take j)).map (Qhs .i64)):=World.ownsRow.alloc hown1 _
     clear e hmem htb hbits
     go_wp2_with (at_builtin;refine wpList_append_own_at _ rfl _ _ 24 rfl base 3 i0 (.int .i64 0) 1 8 ((Cut.under_eq 24).trans Tryz.underlying24) hi hz0 hz1 hz2 rfl (by decide) _ _ _ rfl hvA ⟨w1.heap.size,0,none⟩ 1 1 [.int .i64 (m:Int)] rfl rfl (cell_one_new _ _ _) ?c2 ?c3 ?c4 ?c5 ?_)
     case c2=>intro u hu;simp at hu;subst hu;rfl
     case c3=>unfold maxLen;omega
     case c4=>omega
     case c5=>simp;omega
     intro v' w2 hown2 hgr2 _ hat
     have hg0:w1.grownBy w2 (Qhp va (putAll l0 (ps.take j)).length vcap).ownBlock:=ZX (Z8 ((Below.refl w1.heap.size w1).alloc (Qhq _) _) (Qhq _) _) hgr2
     have hat':v'.ownBlock=(Qhp va (putAll l0 (ps.take j)).length vcap).ownBlock∨∃x,v'.ownBlock=some x∧w1.heap.size≤x:=by
      rcases hat with h|h
      ·exact Or.inl h
      ·exact Or.inr ⟨_,h,by simp⟩
     have B1:=O2 hob hat' (Qht hgl hs1)
     have B2:=hgr1.step (Gr2.row hg0 g) hob
     have B3:=hseg1.grown hg0 hav2
     have B4:AvI (some ⟨b6,off6,none⟩) ps.length v'.ownBlock:=by
      rcases hat' with e|⟨x,e,hx⟩
      ·rw[e];exact hav2
      ·rw[e];exact hseg1.av hx
     have B5:=hblk1.grown hg0 hnb
     have B6:=hX1.grown hg0 hng
     have A1:Hid (Qa w2 base v' (putAll l0 (ps.take (j+1)))):=by
      show Qa _ _ _ _
      rw[HP.out]
      unfold Qa
      simpa using hown2
     have A3:Hid (Jv w2 n g (putAll l0 (ps.take (j+1)))):=by
      show Jv _ _ _ _
      rw[HP.out];exact fun _=>⟨_,B6,hX2⟩
     clear hown hown1 hplj hsetj hX1 hX2 hng hnb hown2 hgr2 hat hg0 hat' B6 hvA
     go_wp2
     go_roundw
     case rel=>exact⟨j+1,by go_num,by omega,A1.out,A2.out,A3.out,B2,B1,B3,B4,B5⟩
     case measure=>simp[intOf];omega
  ·have ej:ps.take j=ps:=List.take_of_length_le (by omega)
   have hown2:Hid (Qa wr base (Qhp va (putAll l0 (ps.take j)).length vcap) (putAll l0 ps)):=by
    show Qa _ _ _ _
    rw[ej]at hown⊢;exact hown
   rw[ej]at hplj hsetj
   have hjd:decide ((j:Int)<(ps.length:Int))=false:=by simp;omega
   clear ej hown
   go_wp2
   go_ret
   exact⟨_,rfl,hown2.out,hplj,hsetj,hgr,hob⟩
theorem Ui {os:List Ob}{ds:List (Int×Int)}{x:Int}{i:Nat}(hx:x.toNat=i)(hi:i<os.length):
 nextP (os.map Ob.p) ds x=if os[i].k=3 then os[i].r.drop 1 else if os[i].k=4 then(ds.filter fun p=>p.1 ==x).map fun p=>p.2 else os[i].r:=by
 subst hx
 simp[nextP,List.getElem?_map,List.getElem?_eq_getElem hi,Ob.p]
structure Pq (w w':World) (h:Hp) (v:Value) (nx:List Int) (na:Option Addr) (ncap:Nat):Prop where
 val:v=.slice na nx.length ncap
 seg:Qk w' na nx
 kept:Below w.heap.size w w'
 av:∀r,Zg h r→(∀g,r=some g→g<w.heap.size)→AvI na nx.length r
def flt (ds:List (Int×Int))(x:Int):List Int:=(ds.filter fun p=>p.1 ==x).map fun p=>p.2
theorem Om (ds:List (Int×Int))(x:Int)(k:Nat)(hk:k<ds.length):flt (ds.take (k+1)) x=if(ds[k].1 ==x)=true then flt (ds.take k) x++ [ds[k].2]else flt (ds.take k) x:=by
 unfold flt
 rw[List.take_succ_eq_append_getElem hk,List.filter_append]
 by_cases h:(ds[k].1 ==x)=true
 ·simp only[List.filter_cons,h,if_true,List.filter_nil,List.map_append,List.map_cons,List.map_nil]
 ·simp only[List.filter_cons,h,List.filter_nil]
  simp
theorem Ol (ds:List (Int×Int))(x:Int)(k:Nat):(flt (ds.take k) x).length≤k:=by
 unfold flt
 rw[List.length_map]
 exact Qht (List.length_filter_le _ _) (List.length_take_le _ _)
theorem Qeg (h:Hp)(x:Int)(w:World)(hh:Qg w h)(hs:Zl h)(h0:0≤x)(h1:x<h.os.length)(h3:∀(i:Nat) (hi:i<h.os.length),h.os[i].k=3→1≤h.os[i].r.length)(hcp:∀(i:Nat) (hi:i<h.os.length),h.os[i].r.length≤h.os[i].rcap):
 Calls Cut.prog 117 #[h.v,.int .i64 x] w fun e w'=>∃v,e=.returned v∧∃na ncap,Pq w w' h v (nextP (h.os.map Ob.p) h.ds x) na ncap:=by
 have hav:=fun(r:Option Nat) (q:Zg h r)=>q
 obtain⟨oa,ocap,os,ra,rcap,rs,wa,wcap,ws,da,dcap,ds⟩:=h
 obtain⟨ho,-,-,hd⟩:=hh
 obtain⟨so,soo,-,-,sd⟩:=hs
 simp only[Hp.v]at *
 have hi:x.toNat<os.length:=by omega
 have HN:=Ui (os:=os) (ds:=ds) rfl hi
 have h3':=h3 _ hi
 have hcp':=hcp _ hi
 have soo':=soo _ hi
 obtain⟨b,off,rfl,hbw,c1,c2,c3⟩:=ho.get hi
 have hsg:=ho.2 _ hi
 have Hav:Hid (∀r,Zg (⟨some ⟨b,off,none⟩,ocap,os,ra,rcap,rs,wa,wcap,ws,da,dcap,ds⟩:Hp) r→AvI os[x.toNat].ra os[x.toNat].r.length r):=fun r q=>q.aoo _ hi
 clear hav h3 soo hcp
 generalize nextP (os.map Ob.p) ds x=NX at HN⊢
 by_cases k3:os[x.toNat].k=3
 ·rw[if_pos k3]at HN
  rw[k3]at c1
  have hl:=h3' k3
  clear h3' k3
  obtain⟨b2,off2,e2,hb2,hcs⟩:=hsg (by omega)
  rw[e2]at c3
  have HNX:Hid (NX=os[x.toNat].r.drop 1):=HN
  clear HN
  generalize hn:os[x.toNat].r.length=n at *
  have hl1:(1:Int)≤(n:Int):=by omega
  go_enter (Cut.func_of Tryz.func117 rfl),Tryz.ntmps117
  go_wp2
  ·have hn0:n-1=0:=by omega
   have hlen:NX.length=0:=by rw[HNX.out,List.length_drop,hn];exact hn0
   go_ret
   refine⟨_,rfl,some ⟨b2,off2,none⟩,0,⟨?_,fun hm=>by omega,((Below.refl _ _).alloc (Qhq _) _).alloc (by simp) _,fun r q _ hm=>by omega⟩⟩
   rw[hlen,←hn0];rfl
  ·have hlen:NX.length=n-1:=by rw[HNX.out,List.length_drop,hn]
   go_ret
   refine⟨_,rfl,some ⟨b2,off2+1,none⟩,os[x.toNat].rcap-1,⟨?_,fun hm=>⟨b2,off2+1,rfl,?_,fun i hi2=>?_⟩,((Below.refl _ _).alloc (Qhq _) _).alloc (by simp) _,fun r q _ hm y hy=>?_⟩⟩
   ·rw[hlen];rfl
   ·simp;omega
   ·have hb3:Below w.heap.size w _:=((Below.refl _ w).alloc (Qhq _) (Qhr #[Qhp (some {block:=b,off:=off}) os.length ocap,Qhp ra rs.length rcap,Qhp wa ws.length wcap,Qhp da ds.length dcap] 27)).alloc (by simp) (Qhr #[Qhs .i64 3,Qhw os[x.toNat].t,Qhp (some ⟨b2,off2,none⟩) n os[x.toNat].rcap] 37)
    refine(hb3.cell (p:=⟨b2,off2+1+i,none⟩) hb2).trans ?_
    have:=hcs (i+1) (by omega)
    rw[show off2+1+i=off2+(i+1)by omega,this,HNX.out]
    simp[List.getD]
    try rw[Nat.add_comm]
   ·have:=Hav.out r q (by omega) _ e2
    simp at hy
    subst hy
    exact this
 rw[if_neg k3]at HN
 have g3:(os[x.toNat].k ==3)=false:=by simpa using k3
 by_cases k4:os[x.toNat].k=4
 ·rw[if_pos k4]at HN
  have HNX:Hid (NX=(ds.filter fun p=>p.1 ==x).map fun p=>p.2):=HN
  clear HN h3' k3 g3
  rw[k4]at c1
  clear k4
  obtain⟨i0,hi',hz0,hz1,hz2⟩:=info_parts Ja
  go_enter (Cut.func_of Tryz.func117 rfl),Tryz.ntmps117
  go_wp2
  have hB0:Below w.heap.size w ((w.alloc (Qhr #[Qhp (some {block:=b,off:=off}) os.length ocap,Qhp ra rs.length rcap,Qhp wa ws.length wcap,Qhp da ds.length dcap] 27)).alloc (Qhr #[Qhs .i64 4,Qhw os[x.toNat].t,Qhp os[x.toNat].ra os[x.toNat].r.length os[x.toNat].rcap] 37)):=((Below.refl _ w).alloc (Qhq _) _).alloc (by simp) _
  have hK0:Blk ((w.alloc (Qhr #[Qhp (some {block:=b,off:=off}) os.length ocap,Qhp ra rs.length rcap,Qhp wa ws.length wcap,Qhp da ds.length dcap] 27)).alloc (Qhr #[Qhs .i64 4,Qhw os[x.toNat].t,Qhp os[x.toNat].ra os[x.toNat].r.length os[x.toNat].rcap] 37)) w.heap.size [Qhp (some {block:=b,off:=off}) os.length ocap,Qhp ra rs.length rcap,Qhp wa ws.length wcap,Qhp da ds.length dcap] 27:=(Blk.new w _ _).alloc _
  have hO0:=World.ownsRow_lit (e:=3) (size:=1) (base:=w.heap.size+2) ((w.alloc (Qhr #[Qhp (some {block:=b,off:=off}) os.length ocap,Qhp ra rs.length rcap,Qhp wa ws.length wcap,Qhp da ds.length dcap] 27)).alloc (Qhr #[Qhs .i64 4,Qhw os[x.toNat].t,Qhp os[x.toNat].ra os[x.toNat].r.length os[x.toNat].rcap] 37)) #[] 0 (by simp) (Nat.zero_le _) rfl
  simp only[World.size_alloc]at hO0
  clear c1 c2 c3 hsg hcp' soo'
  go_loopw [6,7] (fun v i wr=>∃k:Nat,k≤ds.length∧i=.int .i64 k∧Qa wr (w.heap.size+2) v (flt (ds.take k) x)∧Below w.heap.size w wr∧Blk wr w.heap.size [Qhp (some {block:=b,off:=off}) os.length ocap,Qhp ra rs.length rcap,Qhp wa ws.length wcap,Qhp da ds.length dcap] 27∧w.heap.size+2≤wr.heap.size) (fun _ i _=>ds.length-(intOf i).toNat)
  case atStart=>exact⟨0,Nat.zero_le _,rfl,hO0,hB0.alloc (by simp;omega) _,hK0.alloc _,by simp⟩
  case round=>
   obtain⟨k,hk,rfl,hown,hb,hblk,hsz⟩:=hrel
   clear hB0 hK0 hO0
   have q3:=hblk.cell 3
   simp only[Qhz,List.getElem?_cons_succ]at q3
   by_cases hlt:k<ds.length
   ·obtain⟨b5,off5,rfl,hb5,e1,e2⟩:=hd.get hlt
    have d1:=(hb.cell (p:=⟨b5,off5+k*2,none⟩) hb5).trans e1
    have d2:=(hb.cell (p:=⟨b5,off5+k*2+1,none⟩) hb5).trans e2
    clear e1 e2
    have HF:=Om ds x k hlt
    have hfl:=Ol ds x k
    by_cases hm:(ds[k].1 ==x)=true
    ·rw[if_pos hm]at HF
     have HF':Hid (flt (ds.take (k+1)) x=flt (ds.take k) x++ [ds[k].2]):=HF
     clear HF
     obtain⟨va,vcap,rfl,-⟩:=hown.form
     have hvA:(wr.alloc (Qhr #[Qhs .i64 ds[k].2] 3)).ownsRow (w.heap.size+2) 3 1 (.slice va (flt (ds.take k) x).length vcap) (flt (ds.take k) x).length ((flt (ds.take k) x).map (Qhs .i64)):=World.ownsRow.alloc hown _
     have hne:=hown.ne hblk (by decide)
     have hrow:=fun k' h'=>(hown.lt k' h').1
     go_wp2_with (at_builtin;refine wpList_append_own_at _ rfl _ _ 24 rfl (w.heap.size+2) 3 i0 (.int .i64 0) 1 8 ((Cut.under_eq 24).trans Tryz.underlying24) hi' hz0 hz1 hz2 rfl (by decide) _ _ _ rfl hvA ⟨wr.heap.size,0,none⟩ 1 1 [.int .i64 ds[k].2] rfl rfl (cell_one_new _ _ _) ?c2 ?c3 ?c4 ?c5 ?_)
     case c2=>intro u hu;simp at hu;subst hu;rfl
     case c3=>unfold maxLen;omega
     case c4=>omega
     case c5=>simp;omega
     intro v' w2 hown2 hgr _ _
     have hA:Below wr.heap.size wr (wr.alloc (Qhr #[Qhs .i64 ds[k].2] 3)):=(Below.refl _ _).alloc (Qhq _) _
     have hblk2:=(hblk.alloc (Qhr #[Qhs .i64 ds[k].2] 3)).grown hgr hne
     have hb2:Below w.heap.size w w2:=(hb.trans (hA.mono hb.size)).trans (QL hgr (Qht hb.size hA.size) (fun k' h'=>by have:=hrow k' h';omega))
     have hsz2:w.heap.size+2≤w2.heap.size:=Qht hsz (Qht hA.size hgr.size)
     have hown3:Hid (Qa w2 (w.heap.size+2) v' (flt (ds.take (k+1)) x)):=by
      show Qa _ _ _ _
      rw[HF'.out]
      unfold Qa
      simpa using hown2
     clear hown2 hgr hA hvA hne hrow
     go_wp2
     go_roundw
     case rel=>exact⟨k+1,by omega,by go_num,hown3.out,hb2,hblk2,hsz2⟩
     case measure=>simp[intOf];omega
    ·rw[if_neg hm]at HF
     have hm':(ds[k].1 ==x)=false:=by simpa using hm
     have HF':Hid (Qa wr (w.heap.size+2) u6 (flt (ds.take (k+1)) x)):=by
      show Qa _ _ _ _
      rw[HF];exact hown
     clear HF hm
     go_wp2
     go_roundw
     case rel=>exact⟨k+1,by omega,by go_num,HF'.out,hb,hblk,hsz⟩
     case measure=>simp[intOf];omega
   ·have hk2:k=ds.length:=by omega
    subst hk2
    rw[List.take_length]at hown
    have hNX:Hid (NX=flt ds x):=HNX.out
    clear HNX
    obtain⟨va,vcap,rfl,hseg,-⟩:=hown.form
    have hrow:=fun k' h'=>(hown.lt k' h').1
    go_wp2
    go_ret
    refine⟨_,rfl,va,vcap,⟨?_,?_,hb,fun r _ hr hm y hy=>?_⟩⟩
    ·rw[hNX.out];rfl
    ·rw[hNX.out];exact hseg
    ·subst hy
     intro e
     have h1:=hrow y.block rfl
     have h2:=hr y.block e.symm
     omega
 ·rw[if_neg k4]at HN
  have g4:(os[x.toNat].k ==4)=false:=by simpa using k4
  subst HN
  clear h3' k3 k4
  go_enter (Cut.func_of Tryz.func117 rfl),Tryz.ntmps117
  go_wp2
  go_ret
  have hb3:Below w.heap.size w _:=((Below.refl _ w).alloc (Qhq _) (Qhr #[Qhp (some {block:=b,off:=off}) os.length ocap,Qhp ra rs.length rcap,Qhp wa ws.length wcap,Qhp da ds.length dcap] 27)).alloc (by simp) (Qhr #[Qhs .i64 os[x.toNat].k,Qhw os[x.toNat].t,Qhp os[x.toNat].ra os[x.toNat].r.length os[x.toNat].rcap] 37)
  exact⟨_,rfl,os[x.toNat].ra,os[x.toNat].rcap,⟨rfl,hsg.below hb3 (Qhq _),hb3,fun r q _=>Hav.out r q⟩⟩
end
end Go.Proofs.YtcpnkpogebjieaaGreat
