/- The program's own MemReach, whole. -/
import Derived.Maps.OwnIn
import Derived.Test.YtcpnkpogebjieaaGreatG14ImplOk4
import Derived.Deep.QuietTactic
import Derived.BigQuiet
import Derived.Deep.RegionWith
import Derived.Test.YtcpnkpogebjieaaGreatG12SpecOk4
import Derived.Deep.RegionHeld3
import Derived.Deep.AppendLies
open Go.Value renaming slice→Qhp,int→Qhs,ownBlock→Qht
open Go.Obj renaming cells→Qhq
open Nat renaming le_refl→Qhr,le_trans→Qhu
set_option maxHeartbeats 4000000
set_option maxRecDepth 100000
namespace Go.Proofs.YtcpnkpogebjieaaGreat
section
open Go.RowKit Go.Shelf
attribute [local go_sem] Oper.semAt_some
theorem Qa1 (h:Hp)(w:World):
 Calls Cut.prog 48 #[h.v] w fun e w'=>e=.returned (.func (.func 91) #[] #[.pointer (some ⟨w.heap.size,0,none⟩)])∧w'=w.alloc (Qhq #[Qhp h.oa h.os.length h.ocap,Qhp h.ra h.rs.length h.rcap,Qhp h.wa h.ws.length h.wcap,Qhp h.da h.ds.length h.dcap] 27):=by
 simp only[Hp.v]
 have hmf:∀(fn:Fn) (first cap:Array Value) (w:World),(Instr.makeFunc fn first cap).run Cut.prog w=.ok (.func fn first cap) w:=fun _ _ _ _=>rfl
 go_enter (Cut.func_of Tryz.func48 rfl),Tryz.ntmps48
 go_wp2
 go_ret
 exact⟨rfl,rfl⟩
theorem QeZ {W:World}{base:Nat}{v:Value}{zs:List Int}(h:Qa W base v zs){j:Nat}{o:Obj}(e:v.ownBlock=some j)(hj:W.heap[j]? =some o):o.isCells=true:=by
 rcases h.2 with⟨h3,_⟩|⟨g,cap,cur,h3,_,hh,_⟩
 ·rw[h3]at e;simp[Qht]at e
 ·rw[h3]at e
  simp[Qht]at e
  subst e
  rw[hh]at hj
  cases hj
  rfl
theorem QaY {h:Hp}(ht:Tr h)(f i:Nat){l:List Int}(hl:Qq h.os.length l):Qq h.os.length (traceF (h.os.map Ob.p) h.ds f i l):=by
 induction f generalizing i l with
 |zero=>exact hl
 |succ f ih=>
  unfold traceF
  split
  ·exact ih _ (hl.putAll (ht.nx _))
  ·exact hl
def Zp (w:World)(B:Nat)(M:Nat→Prop)(pre:List Int)(W:World):Prop:=
 (∃v,Blk W B [v] 24∧Qa W w.heap.size v pre∧(∀k,v.ownBlock=some k→¬M k))∧¬M B∧(∀k,M k→w.heap.size≤k∧k<W.heap.size)∧Below w.heap.size w W
theorem Zp.chg {w:World}{B:Nat}(M:Nat→Prop)(pre:List Int)(A C:World)(h:Zp w B M pre A)(hc:Chg M A C):Zp w B (Z3 M A C) pre C:=by
 obtain⟨⟨v,hv,ho,hm⟩,hB,hM,hb⟩:=h
 refine⟨⟨v,hv.same (hc.block B hv.lt hB),ho.same (fun k e=>hc.block k (ho.lt k e).2 (hm k e)),fun k e hk=>?_⟩,fun hk=>?_,fun k hk=>?_,?_⟩
 ·rcases hk with hk|hk
  ·exact hm k e hk
  ·have:=(ho.lt k e).2;omega
 ·rcases hk with hk|hk
  ·exact hB hk
  ·have:=hv.lt;omega
 ·rcases hk with hk|hk
  ·exact⟨(hM k hk).1,Nat.lt_of_lt_of_le (hM k hk).2 hc.size⟩
  ·have:=hb.size;omega
 ·exact hb.trans ⟨hc.os,hc.tape,hc.output,hc.size,fun k hk=>hc.block k (by have:=hb.size;omega) (fun h=>by have:=(hM k h).1;omega)⟩
theorem QeW {o:Obj}{cs:List Value}{t:TypeId}(e:some o=some (Qhq cs.toArray t (0,0)))(h:o.isCells=false):False:=by
 cases e
 simp[Obj.isCells]at h
theorem Zp.put {w:World}{B s:Nat}(hs:w.heap.size≤s)(M:Nat→Prop)(pre:List Int)(A:World)(k:Nat)(o o':Obj)(h:Zp w B M pre A)(hk:s≤k)(hl:A.heap[k]? =some o)(hn:o.isCells=false):Zp w B M pre (A.putObj k o'):=by
 obtain⟨⟨v,hv,ho,hm⟩,hB,hM,hb⟩:=h
 have hg:=grownBy_putObj' A k o'
 have h1:B≠k:=fun e=>by
  subst e
  unfold Blk at hv
  rw[hl]at hv
  exact QeW hv hn
 have h2:∀x,v.ownBlock=some x→x≠k:=fun x e e2=>by
  subst e2
  rcases ho.2 with⟨h3,_⟩|⟨g,cap,cur,h3,_,hh,_⟩
  ·rw[h3]at e;simp[Qht]at e
  ·rw[h3]at e
   simp[Qht]at e
   subst e
   rw[hl]at hh
   cases hh
   simp[Obj.isCells]at hn
 refine⟨⟨v,hv.same (World.putObj_heap_other h1),ho.same (fun x e=>World.putObj_heap_other (h2 x e)),hm⟩,hB,fun x hx=>by simpa using hM x hx,?_⟩
 exact hb.trans (QL hg hb.size (fun x e=>by cases e;omega))
theorem Zp.al {w:World}{B:Nat}(M:Nat→Prop)(pre:List Int)(A:World)(o:Obj)(h:Zp w B M pre A):Zp w B M pre (A.alloc o):=by
 obtain⟨⟨v,hv,ho,hm⟩,hB,hM,hb⟩:=h
 exact⟨⟨v,hv.alloc o,ho.below ((Below.refl A.heap.size A).alloc (Qhr _) o) (Qhr _),hm⟩,hB,fun x hx=>⟨(hM x hx).1,by have:=(hM x hx).2;simp;omega⟩,hb.alloc hb.size o⟩
theorem Qfx (h:Hp)(w:World)(hh:Qg w h)(hs:Zk h)(ht:∀i (hi:i<h.os.length),h.os[i].t.size≤maxLen)(hcap:∀(i:Nat) (hi:i<h.os.length),h.os[i].r.length≤h.os[i].rcap):
 Calls Cut.prog 14 #[h.v] w fun e w'=>∃v',e=.returned v'∧Qa w' w.heap.size v' (reachP h.p)∧Below w.heap.size w w':=by
 have hB0:Below w.heap.size w (w.alloc (Qhq #[Qhp h.oa h.os.length h.ocap,Qhp h.ra h.rs.length h.rcap,Qhp h.wa h.ws.length h.wcap,Qhp h.da h.ds.length h.dcap] 27)):=(Below.refl _ _).alloc (Qhr _) _
 have hK0:=Blk.new w [Qhp h.oa h.os.length h.ocap,Qhp h.ra h.rs.length h.rcap,Qhp h.wa h.ws.length h.wcap,Qhp h.da h.ds.length h.dcap] 27
 have c1:=OG h _ (hh.below hB0 (Qhr _)) hs ht
 simp only[Hp.v]at c1
 cases hok:okP h.p with
 |false=>
  rw[hok]at c1
  have E:Hid (reachP h.p=[]):=by simp[Hid,reachP,hok]
  clear hok
  go_enter (Cut.func_of Tryz.func14 rfl),Tryz.ntmps14
  simp only[Hp.v]
  go_wp2_with fail
  refine c1.mono ?_
  rintro e w1 ⟨rfl,hb1⟩
  have hB1:=hB0.trans (hb1.mono hB0.size)
  go_wp2
  go_ret
  refine⟨_,rfl,?_,hB1⟩
  rw[E.out]
  exact World.ownsRow_nil _ _ _ _
 |true=>
  rw[hok]at c1
  have E:Hid (reachP h.p=traceF (h.os.map Ob.p) h.ds 61 0 (putAll [] h.rs)):=by
   show _=_
   simp only[reachP,hok,if_true];rfl
  have HOK:Hid (okP h.p=true):=hok
  clear hok
  refine(callsIn_wide (n:=10)).1 ?_
  have hro:Fence.wide.round=none:=rfl
  have h1:(1:Nat)≤10:=by omega
  obtain⟨i0,hi,hz0,hz1,hz2⟩:=info_parts Z5
  refine callsIn_of_wp_marks (Cut.func_of Tryz.func14 rfl) rfl trivial ?_ hro
  simp only[Hp.v,Tryz.ntmps14,List.size_toArray,List.length_cons,List.length_nil,Nat.reduceAdd,Nat.reduceSub,Array.replicate_succ,Array.replicate_zero,List.push_toArray,List.append_toArray,List.nil_append,List.cons_append]
  gi_wp2_with fail
  refine⟨trivial,?_⟩
  refine(callsIn_wide.2 c1).mono ?_
  rintro e w1 ⟨rfl,hb1⟩
  have hB1:=hB0.trans (hb1.mono hB0.size)
  have hK1:=hK0.below hb1 hK0.lt
  clear c1 hb1 hB0 hK0
  obtain⟨x0,x1,x2,x3⟩:=QB hK1
  have hlt1:=hK1.lt
  have c2:=Qa1 h (w1.alloc (Qhq #[Qhp none 0 0] 24))
  simp only[Hp.v]at c2
  gi_wp2_with fail
  refine⟨trivial,?_⟩
  refine(callsIn_wide.2 c2).mono ?_
  rintro e w2 ⟨rfl,hw2⟩
  have hA1:Below w1.heap.size w1 (w1.alloc (Qhq #[Qhp none 0 0] 24)):=(Below.refl _ _).alloc (Qhr _) _
  have hA2:Below (w1.alloc (Qhq #[Qhp none 0 0] 24)).heap.size (w1.alloc (Qhq #[Qhp none 0 0] 24)) w2:=by rw[hw2];exact(Below.refl _ _).alloc (Qhr _) _
  have hBO:=(Blk.new w1 [Qhp none 0 0] 24).below hA2 (Blk.new w1 [Qhp none 0 0] 24).lt
  have hBH:Blk w2 (w1.heap.size+1) [Qhp h.oa h.os.length h.ocap,Qhp h.ra h.rs.length h.rcap,Qhp h.wa h.ws.length h.wcap,Qhp h.da h.ds.length h.dcap] 27:=by
   have:=Blk.new (w1.alloc (Qhq #[Qhp none 0 0] 24)) [Qhp h.oa h.os.length h.ocap,Qhp h.ra h.rs.length h.rcap,Qhp h.wa h.ws.length h.wcap,Qhp h.da h.ds.length h.dcap] 27
   rw[hw2]
   simpa using this
  have hsz2:w2.heap.size=w1.heap.size+1+1:=by rw[hw2];simp
  have HSZ:Hid (w2.heap.size=w1.heap.size+1+1):=hsz2
  have hB2:Below w.heap.size w w2:=(hB1.trans (hA1.mono hB1.size)).trans (hA2.mono (Qhu hB1.size hA1.size))
  have hw1s:=hB1.size
  have hle2:w.heap.size≤w2.heap.size:=hB2.size
  have h0:Zp w w1.heap.size (fun k=>k=w1.heap.size+1) [] w2:=⟨⟨_,hBO,World.ownsRow_nil _ _ _ _,fun k e=>by simp[Qht]at e⟩,by omega,fun k e=>by omega,hB2⟩
  have hM0:∀k,k=w1.heap.size+1→k<w2.heap.size:=fun k e=>by omega
  have hseq:=Qbh h (10-1) (w1.heap.size+1) w w2 (by omega) hh hB2 hs HOK.out hcap hBH
  have hRl:(traceF (h.os.map Ob.p) h.ds 61 0 (putAll [] h.rs)).length≤60:=by
   have htr:=UL HOK.out hs hcap
   have:=(QaY htr 61 0 ((Qq.nil _).putAll (fun z hz=>(Yj (JO HOK.out).2.2.2.2.1 z hz).2))).len
   have:=htr.n60
   omega
  generalize traceF (h.os.map Ob.p) h.ds 61 0 (putAll [] h.rs)=R at hseq E hRl
  clear hw2 hsz2 c2 hA1 hA2 hBO hBH x0 x1 x2 x3 HOK
  simp only[World.size_alloc]
  gi_wp2_with fail
  refine VY (enc:=fun x:Int=>#[Qhs .i64 x]) hro h1 (gf:=91) (lb:=#[.pointer (some ⟨w1.heap.size+1,0,none⟩)]) rfl trivial (enters_of (Cut.func_of Tryz.func91 rfl) (by kernel_rfl) rfl) hle2 hM0 hseq (fun _=>rfl) (Zp w w1.heap.size) Zp.chg (Zp.put hle2) Zp.al h0
   (fun x=>{tmps:=#[.agg #[Qhp h.oa h.os.length h.ocap,Qhp h.ra h.rs.length h.rcap,Qhp h.wa h.ws.length h.wcap,Qhp h.da h.ds.length h.dcap],.pointer (some ⟨w.heap.size,0,none⟩),.slice none 0 0,.pointer (some ⟨w1.heap.size,0,none⟩),.int .i64 x,.agg #[Qhp h.oa h.os.length h.ocap,Qhp h.ra h.rs.length h.rcap,Qhp h.wa h.ws.length h.wcap,Qhp h.da h.ds.length h.dcap],.bool true,.bool false,.agg #[Qhp h.oa h.os.length h.ocap,Qhp h.ra h.rs.length h.rcap,Qhp h.wa h.ws.length h.wcap,Qhp h.da h.ds.length h.dcap],.func (.func 91) #[] #[.pointer (some ⟨w1.heap.size+1,0,none⟩)],.int .i64 x,undef,undef,undef,undef,undef],defers:=[]}) ?assign ?body ?done
  case assign=>
   intro l x W K hK
   gi_wp2
   exact hK
  case body=>
   rintro l M pre x W ⟨⟨v,hv,hown,hmv⟩,hMB,hM,hB⟩ hpf
   have hlt:pre.length<R.length:=by have:=hpf.length_le;simp at this;omega
   clear hpf
   have hc:=hv.cell 0
   simp only[List.getElem?_cons_zero]at hc
   have hBs:w.heap.size≤w1.heap.size:=hw1s
   have hWs:=hB.size
   obtain⟨va,vcap,rfl,-⟩:=hown.form
   have hvA:(W.alloc (Qhq #[Qhs .i64 x] 3)).ownsRow w.heap.size 3 1 (.slice va pre.length vcap) pre.length (pre.map (Qhs .i64)):=World.ownsRow.alloc hown _
   have hne:=hown.ne hv (by decide)
   have hrow:=fun k e=>hown.lt k e
   have HSE:Hid (∀(v':Value) (w2':World),w2'.ownsRow w.heap.size 3 1 v' (pre.length+1) (pre.map (Qhs .i64)++ [.int .i64 x])→(W.alloc (Qhq #[Qhs .i64 x] 3)).grownBy w2' (Qhp va pre.length vcap).ownBlock→(v'.ownBlock=(Qhp va pre.length vcap).ownBlock∨v'.ownBlock=some (W.heap.size+1))→
    w2'.cell? ⟨w1.heap.size,0,none⟩=some (Qhp va pre.length vcap)∧w2'.frozen? ⟨w1.heap.size,0,none⟩=false∧Vo w.heap.size (Zp w w1.heap.size) M (pre++ [x]) W .normal ⟨#[],[]⟩ (w2'.setCell ⟨w1.heap.size,0,none⟩ v')):=by
    intro v' w2' hown2 hgr hat
    have hA:Below W.heap.size W (W.alloc (Qhq #[Qhs .i64 x] 3)):=(Below.refl _ _).alloc (Qhr _) _
    have hgW:W.grownBy w2' (Qhp va pre.length vcap).ownBlock:=ZU (Z8 hA (Qhr _) _) hgr
    have hv2:=hv.grown hgW hne
    have ho2:Qa w2' w.heap.size v' (pre++ [x]):=by unfold Qa;simpa using hown2
    have hne2:=ho2.ne hv2 (by decide)
    have hb2:Below w.heap.size W w2':=QL hgW hWs (fun k e=>(hrow k e).1)
    refine⟨hv2.cell 0,hv2.free 0,?_,fun k hk=>?_,hb2.setCell hBs _,⟨⟨v',hv2.store 0 v',ownsRow_setCell_other ho2 (by simpa using hne2) _,fun k e hk=>?_⟩,hMB,fun k hk=>⟨(hM k hk).1,?_⟩,(hB.trans hb2).setCell hBs _⟩⟩
    ·refine(KeepsOthers.of_grownBy hgW (fun j o e hj=>QeZ hown e hj)).trans (KeepsOthers.setCell _ _ _)
    ·have hkB:k≠w1.heap.size:=fun e=>hMB (e▸hk)
     rw[Below.heap_setCell _ _ _ _ (by simpa using hkB)]
     exact hgW.block k (hM k hk).2 (fun e=>hmv k e.symm hk)
    ·rcases hat with h1|h1
     ·rw[h1]at e;exact hmv k e hk
     ·rw[h1]at e
      simp at e
      have:=(hM k hk).2
      omega
    ·have:=(hM k hk).2
     have:=hgW.size
     simp[World.setCell];omega
   gi_wp2_with (gi_at_builtin;refine wpListIn_append_own_at _ rfl _ _ 24 rfl w.heap.size 3 i0 (.int .i64 0) 1 8 ((Cut.under_eq 24).trans Tryz.underlying24) hi hz0 hz1 hz2 rfl (by decide) _ _ _ rfl hvA ⟨W.heap.size,0,none⟩ 1 1 [.int .i64 x] rfl rfl (cell_one_new _ _ _) ?c2 ?c3 ?c4 ?c5 ?_)
   case c2=>intro u hu;simp at hu;subst hu;rfl
   case c3=>unfold maxLen;omega
   case c4=>omega
   case c5=>simp;omega
   intro v' w2' hown2 hgr _ hat
   obtain⟨q1,q2,q3⟩:=HSE.out v' w2' hown2 hgr hat
   obtain⟨g',cap',rfl⟩:=ownsRow_succ hown2
   clear hown2 hgr hat HSE hvA
   gi_wp2
   exact q3
  case done=>
   rintro D M W hD ⟨⟨v,hv,hown,hmv⟩,hMB,hM,hB⟩ hK
   have hc:=hv.cell 0
   simp only[List.getElem?_cons_zero]at hc
   gi_wp2
   refine⟨by simp,.inl ⟨_,_,rfl,run_takeDeferred hK,?_⟩⟩
   refine⟨_,results_tmp rfl _ _ _,v,rfl,?_,hB.trans (belowK_b (w:=w) (Qhr _) W D _ _ (by omega) hK rfl rfl)⟩
   rw[E.out]
   exact ownsRow_putObj hown _ hK rfl
end
section
open Go.RowKit
def pos:List Int→Int→Int
 | [],_=>-1
 |z::l,x=>if z=x then 0 else if pos l x<0 then-1 else pos l x+1
def wh (l:List Int)(x:Int):Int:=if x<0 then-1 else pos l x
theorem AtP.pos {zs:List Int}:∀ {x r:Int},AtP zs x r→r=pos zs x:=by
 induction zs with
 |nil=>
  intro x r h
  rcases h with⟨rfl,_⟩|⟨k,_,hk,_⟩
  ·rfl
  ·simp at hk
 |cons z l ih=>
  intro x r h
  rcases h with⟨rfl,hn⟩|⟨k,rfl,hk,hf⟩
  ·simp only[List.mem_cons,not_or]at hn
   have h1:=ih (x:=x) (r:=-1) (Or.inl ⟨rfl,hn.2⟩)
   unfold Go.Proofs.YtcpnkpogebjieaaGreat.pos
   rw[if_neg (fun e=>hn.1 e.symm),←h1];simp
  ·cases k with
   |zero=>
    simp at hk
    unfold Go.Proofs.YtcpnkpogebjieaaGreat.pos
    rw[if_pos hk];simp
   |succ k=>
    have hz:¬z=x:=fun e=>hf 0 (by omega) (by simp[e])
    have h1:=ih (x:=x) (r:=k) (Or.inr ⟨k,rfl,by simpa using hk,fun j hj e=>hf (j+1) (by omega) (by simpa using e)⟩)
    unfold Go.Proofs.YtcpnkpogebjieaaGreat.pos
    rw[if_neg hz,←h1,if_neg (by omega)];simp
theorem Ui (l:List Int)(x:Int):-1≤pos l x∧pos l x<l.length:=by
 induction l with
 |nil=>simp[pos]
 |cons z l ih=>
  unfold pos
  simp only[List.length_cons]
  split
  ·omega
  ·split<;>omega
theorem JE (l:List Int)(x:Int):0≤pos l x↔x∈l:=by
 induction l with
 |nil=>simp[pos]
 |cons z l ih=>
  unfold pos
  by_cases h:z=x
  ·subst h;simp
  ·have h':¬x=z:=fun e=>h e.symm
   have:=Ui l x
   rw[if_neg h]
   simp only[List.mem_cons,h',false_or,←ih]
   split<;>omega
theorem Qe3 (l:List Int)(z x:Int):pos (l++ [z]) x=if x∈l then pos l x else if z=x then(l.length:Int)else-1:=by
 induction l with
 |nil=>
  by_cases h:z=x<;>simp[pos,h]
 |cons y l ih=>
  have hb:=Ui l x
  have hm:=JE l x
  rw[List.cons_append]
  unfold pos
  rw[ih]
  by_cases h:y=x
  ·subst h;simp
  ·have h':¬x=y:=fun e=>h e.symm
   by_cases hx:x∈l
   ·simp[h,hx]
   ·simp only[h,h',hx,List.mem_cons,if_false,or_self,List.length_cons]
    by_cases hz:z=x
    ·simp only[hz,if_true]
     rw[if_neg (by omega)];simp
    ·simp[hz]
def whs (l:List Int)(n:Nat):List Int:=(List.range n).map fun(i:Nat)=>pos l (i:Int)
theorem JC (l:List Int)(n:Nat):(whs l n).length=n:=by simp[whs]
theorem Kg (l:List Int)(n i:Nat)(h:i<(whs l n).length):(whs l n)[i]=pos l (i:Int):=by simp[whs]
theorem UD (l:List Int)(n:Nat)(x:Int)(h0:0≤x)(h:x.toNat<(whs l n).length):(whs l n)[x.toNat]=pos l x:=by
 rw[Kg];congr 1;omega
theorem Qaa (n:Nat):whs [] n=List.replicate n (-1):=by
 apply List.ext_getElem
 ·simp[whs]
 ·intro i h1 h2
  simp[whs,pos]
theorem PH (l:List Int)(n:Nat)(z:Int)(hz:z∉l)(h0:0≤z):whs (l++ [z]) n=(whs l n).set z.toNat (l.length:Int):=by
 apply List.ext_getElem
 ·simp[whs]
 ·intro i h2 h3
  have hi:i<n:=by simpa[whs]using h2
  rw[List.getElem_set,Kg,Qe3]
  by_cases e:z.toNat=i
  ·have ez:z=(i:Int):=by omega
   rw[if_pos e,if_neg (by rw[←ez];exact hz),if_pos ez]
  ·have ez:¬z=(i:Int):=by omega
   rw[if_neg e,Kg,if_neg ez]
   have hb:=Ui l (i:Int)
   have hm:=JE l (i:Int)
   split
   ·rfl
   ·rename_i hn
    have:¬0≤pos l (i:Int):=fun e=>hn (hm.1 e)
    omega
theorem Qde {l:List Int}(h:l.Nodup){k:Nat}(hk:k<l.length):l[k]∉l.take k:=by
 intro hm
 obtain⟨i,hi,e⟩:=List.getElem_of_mem hm
 rw[List.getElem_take]at e
 have hik:i<k:=by have:=List.length_take_le k l;omega
 exact List.pairwise_iff_getElem.1 h i k (by omega) hk hik e
def Qn (ws:List (Int×Int))(x:List Int):List (Int×Int):=(ws.filter fun p=>decide (0≤pos x p.1)).map fun p=>(pos x p.1,pos x p.2)
theorem QdH (ws:List (Int×Int))(x:List Int)(k:Nat)(hk:k<ws.length):Qn (ws.take (k+1)) x=if decide (0≤pos x ws[k].1)=true then Qn (ws.take k) x++ [(pos x ws[k].1,pos x ws[k].2)]else Qn (ws.take k) x:=by
 unfold Qn
 rw[List.take_succ_eq_append_getElem hk,List.filter_append]
 by_cases h:decide (0≤pos x ws[k].1)=true
 ·simp only[List.filter_cons,h,if_true,List.filter_nil,List.map_append,List.map_cons,List.map_nil]
 ·simp only[List.filter_cons,h,List.filter_nil]
  simp
theorem Qg3 (ws:List (Int×Int))(x:List Int)(k:Nat):(Qn (ws.take k) x).length≤k:=by
 unfold Qn
 rw[List.length_map]
 exact Qhu (List.length_filter_le _ _) (List.length_take_le _ _)
theorem QaD (ws:List (Int×Int))(x:List Int):(Qn ws x).length≤ws.length:=by
 unfold Qn
 rw[List.length_map]
 exact List.length_filter_le _ _
def U7 (os:List (Int×ByteArray×List Int))(x:List Int)(p:Int):Int×ByteArray×List Int:=
 match os[p.toNat]? with
 |none=>(0,⟨#[]⟩,[])
 |some o=>(o.1,o.2.1,o.2.2.map (wh x))
theorem Qds {os:List Ob}{x:List Int}{p:Int}{i:Nat}(hx:p.toNat=i)(hi:i<os.length):U7 (os.map Ob.p) x p=(os[i].k,os[i].t,os[i].r.map (wh x)):=by
 subst hx
 simp[U7,List.getElem?_map,List.getElem?_eq_getElem hi,Ob.p]
theorem Qgl {h:Hp}(hok:okP h.p=true)(hs:Zk h)(hcap:∀(i:Nat) (hi:i<h.os.length),h.os[i].r.length≤h.os[i].rcap):Qq h.os.length (reachP h.p):=by
 have E:reachP h.p=traceF (h.os.map Ob.p) h.ds 61 0 (putAll [] h.rs):=by
  simp only[reachP,hok,if_true];rfl
 rw[E]
 exact QaY (UL hok hs hcap) 61 0 ((Qq.nil _).putAll (fun z hz=>(Yj (JO hok).2.2.2.2.1 z hz).2))
theorem Yy (a:Option Addr)(n cap:Nat)(zs:List Int)(x:Int)(w:World)(hl:zs.length=n)(hn:n≤maxLen)(h:Qk w a zs):
 Calls Cut.prog 36 #[.slice a n cap,.int .i64 x] w fun e w'=>e=.returned (.int .i64 (pos zs x))∧w'=w:=by
 refine(OP a n cap zs x w hl hn h).mono ?_
 rintro e w' ⟨r,rfl,rfl,hr⟩
 exact⟨by rw[hr.pos],rfl⟩
theorem Qbb (a:Option Addr)(n cap:Nat)(zs:List Int)(x:Int)(w:World)(hl:zs.length=n)(hn:n≤maxLen)(h:Qk w a zs):
 Calls Cut.prog 38 #[.slice a n cap,.int .i64 x] w fun e w'=>e=.returned (.int .i64 (wh zs x))∧w'=w:=by
 by_cases hx:x<0
 ·have E:Hid (wh zs x= -1):=by simp[Hid,wh,hx]
  go_enter (Cut.func_of Tryz.func38 rfl),Tryz.ntmps38
  go_wp2
  go_ret
  exact⟨U5 E.out.symm,rfl⟩
 ·have E:Hid (wh zs x=pos zs x):=by simp[Hid,wh,hx]
  have hd:decide (x<0)=false:=by simpa using hx
  go_enter (Cut.func_of Tryz.func38 rfl),Tryz.ntmps38
  go_wp2_with fail
  refine(Yy a n cap zs x _ hl hn h).mono ?_
  rintro e w1 ⟨rfl,rfl⟩
  go_wp2
  go_ret
  exact⟨U5 E.out.symm,rfl⟩
theorem UU {w:World}{base e size n g cap:Nat}{xs:List Value}(h:w.ownsRow base e size (.slice (some ⟨g,0,none⟩) n cap) n xs)(i:Nat)(hi:i<n*size):w.cell? ⟨g,i,none⟩=xs[i]? :=by
 rcases h.2 with⟨h1,_⟩|⟨g',cap',cur,h1,_,hh,_,_,_,htake⟩
 ·simp at h1
 ·simp only[Value.slice.injEq,Option.some.injEq,Addr.mk.injEq,and_true,true_and]at h1
  obtain⟨rfl,rfl⟩:=h1
  rw[←htake,List.getElem?_take_of_lt hi]
  simp[World.cell?,hh]
def Qe (w:World)(base:Nat)(v:Value)(ws:List (Int×Int)):Prop:=w.ownsRow base 40 2 v ws.length (ws.flatMap wc)
theorem Qe.form {w:World}{base:Nat}{v:Value}{ws:List (Int×Int)}(h:Qe w base v ws):∃a cap,v=.slice a ws.length cap∧QG w a ws∧(ws.length≤cap∧cap≤maxLen):=by
 rcases h.2 with⟨h1,h2⟩|⟨g,cap,cur,h1,hg,hh,hn,hc,hs,htake⟩
 ·refine⟨none,0,by rw[h1,h2],fun hm=>by omega,by omega,Nat.zero_le _⟩
 ·refine⟨some ⟨g,0,none⟩,cap,h1,fun hm=>⟨g,0,rfl,lt_of_block hh,fun i hi=>?_⟩,hn,hc⟩
  have h':w.ownsRow base 40 2 (.slice (some ⟨g,0,none⟩) ws.length cap) ws.length (ws.flatMap wc):=by rw[←h1];exact h
  have g0:=Jy wc 2 (fun _=>rfl) ws i 0 hi (by omega)
  have g1:=Jy wc 2 (fun _=>rfl) ws i 1 hi (by omega)
  refine⟨?_,?_⟩
  ·rw[Nat.zero_add,UU h' _ (by omega)];exact g0
  ·rw[Nat.zero_add,UU h' _ (by omega)];exact g1
theorem Qe.below {w w':World}{base B:Nat}{v:Value}{ws:List (Int×Int)}(h:Qe w base v ws)(hb:Below B w w')(hB:w.heap.size≤B):Qe w' base v ws:=by
 refine World.ownsRow.kept h (Z8 hb hB none) ?_
 cases e:v.ownBlock with
 |none=>exact Or.inl rfl
 |some k=>exact Or.inr (by simp)
theorem Qe.lt {w:World}{base:Nat}{v:Value}{ws:List (Int×Int)}(h:Qe w base v ws):∀k,v.ownBlock=some k→base≤k∧k<w.heap.size:=World.ownsRow.lt h
theorem Qe.base {w:World}{B C:Nat}{v:Value}{ws:List (Int×Int)}(h:Qe w B v ws)(hC:C≤B):Qe w C v ws:=by
 refine⟨h.1,?_⟩
 rcases h.2 with h1|⟨g,cap,cur,h1,hg,r⟩
 ·exact Or.inl h1
 ·exact Or.inr ⟨g,cap,cur,h1,Qhu hC hg,r⟩
theorem Yd {w:World}(p:Int×Int)(t:TypeId):∀j u,(wc p)[j]? =some u→(w.alloc (Qhq #[.int .i64 p.1,.int .i64 p.2] t)).cell? ((⟨w.heap.size,0,none⟩:Addr).add j)=some u:=
 World.news_of_block (cs:=#[.int .i64 p.1,.int .i64 p.2]) (heap_alloc_new w _)
theorem Qe0 {l:List Int}{z:Int}(h:z<0):wh l z= -1:=by simp[wh,h]
theorem Qdv {l:List Int}{z:Int}(h:¬z<0):wh l z=pos l z:=by simp[wh,h]
theorem Ox (n:Nat)(X:List Int)(pa:Option Addr)(pcap:Nat)(ps:List Int)(ya:Option Addr)(ycap:Nat)(w:World)(hp:Qk w pa ps)(hpl:ps.length≤1048576)(hy:Qk w ya (whs X n))(hr:∀z∈ps,-1≤z∧z<n):
 Calls Cut.prog 106 #[.slice pa ps.length pcap,.slice ya n ycap] w fun e w'=>∃v',e=.returned v'∧Qa w' w.heap.size v' (ps.map (wh X))∧Below w.heap.size w w':=by
 obtain⟨i0,hi',hz0,hz1,hz2⟩:=info_parts Z5
 go_enter (Cut.func_of Tryz.func106 rfl),Tryz.ntmps106
 go_wp2_with (at_make;refine wpList_make_own _ rfl _ _ 24 rfl w.heap.size 3 i0 (.int .i64 0) 1 ((Cut.under_eq 24).trans Tryz.underlying24) hi' hz0 hz1 .i64 .i64 _ ps.length rfl rfl rfl ?c1 ?c2 (Qhr _) ?_)
 case c1=>rw[hz2];omega
 case c2=>unfold maxLen;omega
 intro w0 hown0 hg0
 have hB0:=UZ hg0
 have hO0:Qa w0 w.heap.size (.slice (some ⟨w.heap.size,0,none⟩) 0 ps.length) []:=hown0
 clear hown0 hg0
 go_wp2
 go_loopw [5,7,13] (fun v _ i wr=>∃k:Nat,k≤ps.length∧i=.int .i64 k∧Qa wr w.heap.size v ((ps.take k).map (wh X))∧Below w.heap.size w wr) (fun _ _ i _=>ps.length-(intOf i).toNat)
 case atStart=>exact⟨0,Nat.zero_le _,rfl,hO0,hB0⟩
 case round=>
  obtain⟨k,hk,rfl,hown,hb⟩:=hrel
  clear hO0 hB0
  by_cases hlt:k<ps.length
  ·obtain⟨b5,off5,rfl,hb5,e1⟩:=hp.get hlt
   have d1:=(hb.cell (p:=⟨b5,off5+k,none⟩) hb5).trans e1
   clear e1
   have HF:Hid ((ps.take (k+1)).map (wh X)=(ps.take k).map (wh X)++ [wh X ps[k]]):=by
    show _=_
    rw[List.take_succ_eq_append_getElem hlt,List.map_append];rfl
   have hfl:((ps.take k).map (wh X)).length≤k:=by rw[List.length_map];exact List.length_take_le _ _
   have hz:=hr ps[k] (List.getElem_mem hlt)
   generalize ps[k]=z at *
   generalize hL:(ps.take k).map (wh X)=L at *
   have HL:Hid ((ps.take k).map (wh X)=L):=hL
   clear hL
   obtain⟨va,vcap,rfl,-⟩:=hown.form
   have hrow:=fun k' h'=>(hown.lt k' h').1
   have hbs:=hb.size
   have HEND:Hid (∀v' w2,w2.ownsRow w.heap.size 3 1 v' (L.length+1) (L.map (Qhs .i64)++ [.int .i64 (wh X z)])→(wr.alloc (Qhq #[Qhs .i64 (wh X z)] 3)).grownBy w2 (Qhp va L.length vcap).ownBlock→Qa w2 w.heap.size v' ((ps.take (k+1)).map (wh X))∧Below w.heap.size w w2):=fun v' w2 ho hg=>by
    have hA:Below wr.heap.size wr (wr.alloc (Qhq #[Qhs .i64 (wh X z)] 3)):=(Below.refl _ _).alloc (Qhr _) _
    refine⟨?_,(hb.trans (hA.mono hb.size)).trans (QL hg (Qhu hb.size hA.size) hrow)⟩
    rw[HF.out]
    unfold Qa
    simpa using ho
   have hvA:(wr.alloc (Qhq #[Qhs .i64 (wh X z)] 3)).ownsRow w.heap.size 3 1 (.slice va L.length vcap) L.length (L.map (Qhs .i64)):=World.ownsRow.alloc hown _
   by_cases hneg:z<0
   ·have hz1':z= -1:=by omega
    have hw1:wh X z= -1:=Qe0 hneg
    rw[hw1]at hvA HEND
    subst hz1'
    clear hw1 hneg hz
    go_wp2_with (at_builtin;refine wpList_append_own_at _ rfl _ _ 24 rfl w.heap.size 3 i0 (.int .i64 0) 1 8 ((Cut.under_eq 24).trans Tryz.underlying24) hi' hz0 hz1 hz2 rfl (by decide) _ _ _ rfl hvA ⟨wr.heap.size,0,none⟩ 1 1 [.int .i64 (-1)] rfl rfl (cell_one_new _ _ _) ?c2 ?c3 ?c4 ?c5 ?_)
    case c2=>intro u hu;simp at hu;subst hu;rfl
    case c3=>unfold maxLen;omega
    case c4=>omega
    case c5=>simp;omega
    intro v' w2 hown2 hgr _ _
    obtain⟨ho3,hb3⟩:=HEND.out v' w2 hown2 hgr
    clear hown2 hgr hvA HEND
    go_wp2
    go_roundw
    case rel=>exact⟨k+1,by omega,by go_num,ho3,hb3⟩
    case measure=>simp[intOf];omega
   ·have hzl:z.toNat<(whs X n).length:=by rw[JC];omega
    obtain⟨b6,off6,rfl,hb6,f1⟩:=hy.get hzl
    rw[UD _ _ _ (by omega)]at f1
    have d2:=(hb.cell (p:=⟨b6,off6+z.toNat,none⟩) hb6).trans f1
    clear f1
    have hw1:wh X z=pos X z:=Qdv hneg
    rw[hw1]at hvA HEND
    have hz0':0≤z:=by omega
    have hzn:z<(n:Int):=by omega
    have hdz:decide (0≤z)=true:=by simpa using hz0'
    clear hw1 hneg hz
    go_wp2_with (at_builtin;refine wpList_append_own_at _ rfl _ _ 24 rfl w.heap.size 3 i0 (.int .i64 0) 1 8 ((Cut.under_eq 24).trans Tryz.underlying24) hi' hz0 hz1 hz2 rfl (by decide) _ _ _ rfl hvA ⟨wr.heap.size,0,none⟩ 1 1 [.int .i64 (pos X z)] rfl rfl (cell_one_new _ _ _) ?c2 ?c3 ?c4 ?c5 ?_)
    case c2=>intro u hu;simp at hu;subst hu;rfl
    case c3=>unfold maxLen;omega
    case c4=>omega
    case c5=>simp;omega
    intro v' w2 hown2 hgr _ _
    obtain⟨ho3,hb3⟩:=HEND.out v' w2 hown2 hgr
    clear hown2 hgr hvA HEND
    go_wp2
    go_roundw
    case rel=>exact⟨k+1,by omega,by go_num,ho3,hb3⟩
    case measure=>simp[intOf];omega
  ·have ek:ps.take k=ps:=List.take_of_length_le (by omega)
   rw[ek]at hown
   clear ek
   go_wp2
   go_ret
   exact⟨_,rfl,hown,hb⟩
end
end Go.Proofs.YtcpnkpogebjieaaGreat
