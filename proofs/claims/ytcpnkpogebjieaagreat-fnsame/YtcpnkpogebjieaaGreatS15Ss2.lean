/- The program's own MemReach, whole. -/
import Derived.Maps.OwnIn
import Derived.Test.YtcpnkpogebjieaaGreatS14ImplOk4
import Derived.Deep.QuietTactic
import Derived.BigQuiet
import Derived.Deep.RegionWith
import Derived.Test.YtcpnkpogebjieaaGreatS12SpecOk4
open Go.Value renaming slice→QhR,int→QhT,string→QhV,ownBlock→QhW
open Go.Obj renaming cells→QhS
open Nat renaming le_refl→QhU,zero_le→QhX
open List renaming getElem?_cons_zero→QhY,mem_cons→QhZ
set_option maxHeartbeats 4000000
set_option maxRecDepth 100000
namespace Go.Proofs.YtcpnkpogebjieaaGreat
section
open Go.RowKit Go.Shelf
attribute [local go_sem] Oper.semAt_some
theorem Om (h:Hp)(w:World):
 Calls Cut.prog 48 #[h.v] w fun e w'=>e=.returned (.func (.func 91) #[] #[.pointer (some ⟨w.heap.size,0,none⟩)])∧w'=w.alloc (QhS #[QhR h.oa h.os.length h.ocap,QhR h.ra h.rs.length h.rcap,QhR h.wa h.ws.length h.wcap,QhR h.da h.ds.length h.dcap] 27):=by
 simp only[Hp.v];have hmf:∀(fn:Fn) (first cap:Array Value) (w:World),(Instr.makeFunc fn first cap).run Cut.prog w=.ok (.func fn first cap) w:=fun _ _ _ _=>rfl;go_enter (Cut.func_of Tryz.func48 rfl),Tryz.ntmps48;go_wp2;go_ret;exact⟨rfl,rfl⟩
theorem QfV {W:World}{base:Nat}{v:Value}{zs:List Int}(h:Qa W base v zs){j:Nat}{o:Obj}(e:v.ownBlock=some j)(hj:W.heap[j]? =some o):o.isCells=true:=by
 rcases h.2 with⟨h3,_⟩|⟨g,cap,cur,h3,_,hh,_⟩
 ·rw[h3]at e;simp[QhW]at e
 ·rw[h3]at e;simp[QhW]at e;subst e;rw[hh]at hj
  cases hj
  rfl
theorem Qbz {h:Hp}(ht:Tr h)(f i:Nat){l:List Int}(hl:Qr h.os.length l):Qr h.os.length (traceF (h.os.map Ob.p) h.ds f i l):=by
 induction f generalizing i l with
 |zero=>exact hl
 |succ f ih=>
  unfold traceF;split
  ·exact ih _ (hl.putAll (ht.nx _))
  ·exact hl
def Zn (w:World)(B:Nat)(M:Nat→Prop)(pre:List Int)(W:World):Prop:=
 (∃v,Blk W B [v] 24∧Qa W w.heap.size v pre∧(∀k,v.ownBlock=some k→¬M k))∧¬M B∧(∀k,M k→w.heap.size≤k∧k<W.heap.size)∧Below w.heap.size w W
theorem Zn.chg {w:World}{B:Nat}(M:Nat→Prop)(pre:List Int)(A C:World)(h:Zn w B M pre A)(hc:Chg M A C):Zn w B (Z9 M A C) pre C:=by
 obtain⟨⟨v,hv,ho,hm⟩,hB,hM,hb⟩:=h;refine⟨⟨v,hv.same (hc.block B hv.lt hB),ho.same (fun k e=>hc.block k (ho.lt k e).2 (hm k e)),fun k e hk=>?_⟩,fun hk=>?_,fun k hk=>?_,?_⟩
 ·rcases hk with hk|hk
  ·exact hm k e hk
  ·have:=(ho.lt k e).2;omega
 ·rcases hk with hk|hk
  ·exact hB hk
  ·have:=hv.lt;omega
 ·rcases hk with hk|hk
  ·exact⟨(hM k hk).1,Nat.lt_of_lt_of_le (hM k hk).2 hc.size⟩
  ·have:=hb.size;omega
 ·exact hb.trans ⟨hc.os,hc.tape,hc.output,hc.size,fun k hk=>hc.block k (by have:=hb.size;omega) (fun h=>by have:=(hM k h).1;omega)⟩
theorem QfJ {o:Obj}{cs:List Value}{t:TypeId}(e:some o=some (QhS cs.toArray t (0,0)))(h:o.isCells=false):False:=by
 cases e
 simp[Obj.isCells]at h
theorem Zn.put {w:World}{B s:Nat}(hs:w.heap.size≤s)(M:Nat→Prop)(pre:List Int)(A:World)(k:Nat)(o o':Obj)(h:Zn w B M pre A)(hk:s≤k)(hl:A.heap[k]? =some o)(hn:o.isCells=false):Zn w B M pre (A.putObj k o'):=by
 obtain⟨⟨v,hv,ho,hm⟩,hB,hM,hb⟩:=h;have hg:=grownBy_putObj' A k o'
 have h1:B≠k:=fun e=>by
  subst e;unfold Blk at hv;rw[hl]at hv;exact QfJ hv hn
 have h2:∀x,v.ownBlock=some x→x≠k:=fun x e e2=>by
  subst e2;rcases ho.2 with⟨h3,_⟩|⟨g,cap,cur,h3,_,hh,_⟩
  ·rw[h3]at e;simp[QhW]at e
  ·rw[h3]at e;simp[QhW]at e;subst e;rw[hl]at hh
   cases hh
   simp[Obj.isCells]at hn
 refine⟨⟨v,hv.same (World.putObj_heap_other h1),ho.same (fun x e=>World.putObj_heap_other (h2 x e)),hm⟩,hB,fun x hx=>by simpa using hM x hx,?_⟩;exact hb.trans (QJ hg hb.size (fun x e=>by cases e;omega))
theorem Zn.al {w:World}{B:Nat}(M:Nat→Prop)(pre:List Int)(A:World)(o:Obj)(h:Zn w B M pre A):Zn w B M pre (A.alloc o):=by
 obtain⟨⟨v,hv,ho,hm⟩,hB,hM,hb⟩:=h;exact⟨⟨v,hv.alloc o,ho.below ((Below.refl A.heap.size A).alloc (QhU _) o) (QhU _),hm⟩,hB,fun x hx=>⟨(hM x hx).1,by have:=(hM x hx).2;simp;omega⟩,hb.alloc hb.size o⟩
theorem O6 (h:Hp)(w:World)(hh:Qj w h)(hs:ZV h)(ht:∀i (hi:i<h.os.length),h.os[i].t.size≤maxLen)(hcap:∀(i:Nat) (hi:i<h.os.length),h.os[i].r.length≤h.os[i].rcap):
 Calls Cut.prog 14 #[h.v] w fun e w'=>∃v',e=.returned v'∧Qa w' w.heap.size v' (reachP h.p)∧Below w.heap.size w w':=by
 have hB0:Below w.heap.size w (w.alloc (QhS #[QhR h.oa h.os.length h.ocap,QhR h.ra h.rs.length h.rcap,QhR h.wa h.ws.length h.wcap,QhR h.da h.ds.length h.dcap] 27)):=(Below.refl _ _).alloc (QhU _) _;have hK0:=Blk.new w [QhR h.oa h.os.length h.ocap,QhR h.ra h.rs.length h.rcap,QhR h.wa h.ws.length h.wcap,QhR h.da h.ds.length h.dcap] 27;have c1:=VA h _ (hh.below hB0 (QhU _)) hs ht;simp only[Hp.v]at c1
 cases hok:okP h.p with
 |false=>
  rw[hok]at c1;have E:Hid (reachP h.p=[]):=by simp[Hid,reachP,hok]
  clear hok;go_enter (Cut.func_of Tryz.func14 rfl),Tryz.ntmps14;simp only[Hp.v];go_wp2_with fail;refine c1.mono ?_;rintro e w1 ⟨rfl,hb1⟩;have hB1:=hB0.trans (hb1.mono hB0.size);go_wp2;go_ret;refine⟨_,rfl,?_,hB1⟩;rw[E.out];exact World.ownsRow_nil _ _ _ _
 |true=>
  rw[hok]at c1
  have E:Hid (reachP h.p=traceF (h.os.map Ob.p) h.ds 61 0 (putAll [] h.rs)):=by
   show _=_;simp only[reachP,hok,if_true];rfl
  have HOK:Hid (okP h.p=true):=hok;clear hok;refine(callsIn_wide (n:=10)).1 ?_;have hro:Fence.wide.round=none:=rfl;have h1:(1:Nat)≤10:=by omega
  obtain⟨i0,hi,hz0,hz1,hz2⟩:=info_parts Je;refine callsIn_of_wp_marks (Cut.func_of Tryz.func14 rfl) rfl trivial ?_ hro;simp only[Hp.v,Tryz.ntmps14,List.size_toArray,List.length_cons,List.length_nil,Nat.reduceAdd,Nat.reduceSub,Array.replicate_succ,Array.replicate_zero,List.push_toArray,List.append_toArray,List.nil_append,List.cons_append]
  gi_wp2_with fail
  refine⟨trivial,?_⟩;refine(callsIn_wide.2 c1).mono ?_;rintro e w1 ⟨rfl,hb1⟩;have hB1:=hB0.trans (hb1.mono hB0.size);have hK1:=hK0.below hb1 hK0.lt;clear c1 hb1 hB0 hK0;obtain⟨x0,x1,x2,x3⟩:=Qu hK1;have hlt1:=hK1.lt;have c2:=Om h (w1.alloc (QhS #[QhR none 0 0] 24));simp only[Hp.v]at c2
  gi_wp2_with fail
  refine⟨trivial,?_⟩;refine(callsIn_wide.2 c2).mono ?_;rintro e w2 ⟨rfl,hw2⟩;have hA1:Below w1.heap.size w1 (w1.alloc (QhS #[QhR none 0 0] 24)):=(Below.refl _ _).alloc (QhU _) _;have hA2:Below (w1.alloc (QhS #[QhR none 0 0] 24)).heap.size (w1.alloc (QhS #[QhR none 0 0] 24)) w2:=by rw[hw2];exact(Below.refl _ _).alloc (QhU _) _
  have hBO:=(Blk.new w1 [QhR none 0 0] 24).below hA2 (Blk.new w1 [QhR none 0 0] 24).lt
  have hBH:Blk w2 (w1.heap.size+1) [QhR h.oa h.os.length h.ocap,QhR h.ra h.rs.length h.rcap,QhR h.wa h.ws.length h.wcap,QhR h.da h.ds.length h.dcap] 27:=by
   have:=Blk.new (w1.alloc (QhS #[QhR none 0 0] 24)) [QhR h.oa h.os.length h.ocap,QhR h.ra h.rs.length h.rcap,QhR h.wa h.ws.length h.wcap,QhR h.da h.ds.length h.dcap] 27;rw[hw2];simpa using this
  have hsz2:w2.heap.size=w1.heap.size+1+1:=by rw[hw2];simp
  have HSZ:Hid (w2.heap.size=w1.heap.size+1+1):=hsz2;have hB2:Below w.heap.size w w2:=(hB1.trans (hA1.mono hB1.size)).trans (hA2.mono (Nat.le_trans hB1.size hA1.size));have hw1s:=hB1.size;have hle2:w.heap.size≤w2.heap.size:=hB2.size;have h0:Zn w w1.heap.size (fun k=>k=w1.heap.size+1) [] w2:=⟨⟨_,hBO,World.ownsRow_nil _ _ _ _,fun k e=>by simp[QhW]at e⟩,by omega,fun k e=>by omega,hB2⟩;have hM0:∀k,k=w1.heap.size+1→k<w2.heap.size:=fun k e=>by omega
  have hseq:=Ol h (10-1) (w1.heap.size+1) w w2 (by omega) hh hB2 hs HOK.out hcap hBH
  have hRl:(traceF (h.os.map Ob.p) h.ds 61 0 (putAll [] h.rs)).length≤60:=by
   have htr:=Y0 HOK.out hs hcap;have:=(Qbz htr 61 0 ((Qr.nil _).putAll (fun z hz=>(JT (ZP HOK.out).2.2.2.2.1 z hz).2))).len;have:=htr.n60;omega
  generalize traceF (h.os.map Ob.p) h.ds 61 0 (putAll [] h.rs)=R at hseq E hRl;clear hw2 hsz2 c2 hA1 hA2 hBO hBH x0 x1 x2 x3 HOK;simp only[World.size_alloc]
  gi_wp2_with fail
  refine PO (enc:=fun x:Int=>#[QhT .i64 x]) hro h1 (gf:=91) (lb:=#[.pointer (some ⟨w1.heap.size+1,0,none⟩)]) rfl trivial (enters_of (Cut.func_of Tryz.func91 rfl) (by kernel_rfl) rfl) hle2 hM0 hseq (fun _=>rfl) (Zn w w1.heap.size) Zn.chg (Zn.put hle2) Zn.al h0
   (fun x=>{tmps:=#[.agg #[QhR h.oa h.os.length h.ocap,QhR h.ra h.rs.length h.rcap,QhR h.wa h.ws.length h.wcap,QhR h.da h.ds.length h.dcap],.pointer (some ⟨w.heap.size,0,none⟩),.slice none 0 0,.pointer (some ⟨w1.heap.size,0,none⟩),.int .i64 x,.agg #[QhR h.oa h.os.length h.ocap,QhR h.ra h.rs.length h.rcap,QhR h.wa h.ws.length h.wcap,QhR h.da h.ds.length h.dcap],.bool true,.bool false,.agg #[QhR h.oa h.os.length h.ocap,QhR h.ra h.rs.length h.rcap,QhR h.wa h.ws.length h.wcap,QhR h.da h.ds.length h.dcap],.func (.func 91) #[] #[.pointer (some ⟨w1.heap.size+1,0,none⟩)],.int .i64 x,undef,undef,undef,undef,undef],defers:=[]}) ?assign ?body ?done
  case assign=>
   intro l x W K hK
   gi_wp2
   exact hK
  case body=>
   rintro l M pre x W ⟨⟨v,hv,hown,hmv⟩,hMB,hM,hB⟩ hpf;have hlt:pre.length<R.length:=by have:=hpf.length_le;simp at this;omega
   clear hpf;have hc:=hv.cell 0;simp only[QhY]at hc;have hBs:w.heap.size≤w1.heap.size:=hw1s;have hWs:=hB.size;obtain⟨va,vcap,rfl,-⟩:=hown.form;have hvA:(W.alloc (QhS #[QhT .i64 x] 3)).ownsRow w.heap.size 3 1 (.slice va pre.length vcap) pre.length (pre.map (QhT .i64)):=World.ownsRow.alloc hown _;have hne:=hown.ne hv (by decide);have hrow:=fun k e=>hown.lt k e
   have HSE:Hid (∀(v':Value) (w2':World),w2'.ownsRow w.heap.size 3 1 v' (pre.length+1) (pre.map (QhT .i64)++ [.int .i64 x])→(W.alloc (QhS #[QhT .i64 x] 3)).grownBy w2' (QhR va pre.length vcap).ownBlock→(v'.ownBlock=(QhR va pre.length vcap).ownBlock∨v'.ownBlock=some (W.heap.size+1))→
    w2'.cell? ⟨w1.heap.size,0,none⟩=some (QhR va pre.length vcap)∧w2'.frozen? ⟨w1.heap.size,0,none⟩=false∧VQ w.heap.size (Zn w w1.heap.size) M (pre++ [x]) W .normal ⟨#[],[]⟩ (w2'.setCell ⟨w1.heap.size,0,none⟩ v')):=by
    intro v' w2' hown2 hgr hat;have hA:Below W.heap.size W (W.alloc (QhS #[QhT .i64 x] 3)):=(Below.refl _ _).alloc (QhU _) _;have hgW:W.grownBy w2' (QhR va pre.length vcap).ownBlock:=Z4 (Jd hA (QhU _) _) hgr;have hv2:=hv.grown hgW hne;have ho2:Qa w2' w.heap.size v' (pre++ [x]):=by unfold Qa;simpa using hown2
    have hne2:=ho2.ne hv2 (by decide);have hb2:Below w.heap.size W w2':=QJ hgW hWs (fun k e=>(hrow k e).1);refine⟨hv2.cell 0,hv2.free 0,?_,fun k hk=>?_,hb2.setCell hBs _,⟨⟨v',hv2.store 0 v',ownsRow_setCell_other ho2 (by simpa using hne2) _,fun k e hk=>?_⟩,hMB,fun k hk=>⟨(hM k hk).1,?_⟩,(hB.trans hb2).setCell hBs _⟩⟩
    ·refine(KeepsOthers.of_grownBy hgW (fun j o e hj=>QfV hown e hj)).trans (KeepsOthers.setCell _ _ _)
    ·have hkB:k≠w1.heap.size:=fun e=>hMB (e▸hk);rw[Below.heap_setCell _ _ _ _ (by simpa using hkB)];exact hgW.block k (hM k hk).2 (fun e=>hmv k e.symm hk)
    ·rcases hat with h1|h1
     ·rw[h1]at e;exact hmv k e hk
     ·rw[h1]at e;simp at e;have:=(hM k hk).2;omega
    ·have:=(hM k hk).2;have:=hgW.size;simp[World.setCell];omega
   gi_wp2_with (gi_at_builtin;refine wpListIn_append_own_at _ rfl _ _ 24 rfl w.heap.size 3 i0 (.int .i64 0) 1 8 ((Cut.under_eq 24).trans Tryz.underlying24) hi hz0 hz1 hz2 rfl (by decide) _ _ _ rfl hvA ⟨W.heap.size,0,none⟩ 1 1 [.int .i64 x] rfl rfl (cell_one_new _ _ _) ?c2 ?c3 ?c4 ?c5 ?_)
   case c2=>intro u hu;simp at hu;subst hu;rfl
   case c3=>unfold maxLen;omega
   case c4=>omega
   case c5=>simp;omega
   intro v' w2' hown2 hgr _ hat;obtain⟨q1,q2,q3⟩:=HSE.out v' w2' hown2 hgr hat;obtain⟨g',cap',rfl⟩:=ownsRow_succ hown2;clear hown2 hgr hat HSE hvA
   gi_wp2
   exact q3
  case done=>
   rintro D M W hD ⟨⟨v,hv,hown,hmv⟩,hMB,hM,hB⟩ hK;have hc:=hv.cell 0;simp only[QhY]at hc
   gi_wp2
   refine⟨by simp,.inl ⟨_,_,rfl,run_takeDeferred hK,?_⟩⟩;refine⟨_,results_tmp rfl _ _ _,v,rfl,?_,hB.trans (belowK_b (w:=w) (QhU _) W D _ _ (by omega) hK rfl rfl)⟩;rw[E.out];exact ownsRow_putObj hown _ hK rfl
end
section
open Go.RowKit
def pos:List Int→Int→Int
 | [],_=>-1
 |z::l,x=>if z=x then 0 else if pos l x<0 then-1 else pos l x+1
def wh (l:List Int)(x:Int):Int:=if x<0 then-1 else pos l x
theorem AtP.pos {zs:List Int}:∀ {x r:Int},AtP zs x r→r=pos zs x:=by
 induction zs with
 |nil=>
  intro x r h;rcases h with⟨rfl,_⟩|⟨k,_,hk,_⟩
  ·rfl
  ·simp at hk
 |cons z l ih=>
  intro x r h;rcases h with⟨rfl,hn⟩|⟨k,rfl,hk,hf⟩
  ·simp only[QhZ,not_or]at hn;have h1:=ih (x:=x) (r:=-1) (Or.inl ⟨rfl,hn.2⟩);unfold Go.Proofs.YtcpnkpogebjieaaGreat.pos;rw[if_neg (fun e=>hn.1 e.symm),←h1];simp
  ·cases k with
   |zero=>
    simp at hk;unfold Go.Proofs.YtcpnkpogebjieaaGreat.pos;rw[if_pos hk];simp
   |succ k=>
    have hz:¬z=x:=fun e=>hf 0 (by omega) (by simp[e]);have h1:=ih (x:=x) (r:=k) (Or.inr ⟨k,rfl,by simpa using hk,fun j hj e=>hf (j+1) (by omega) (by simpa using e)⟩);unfold Go.Proofs.YtcpnkpogebjieaaGreat.pos;rw[if_neg hz,←h1,if_neg (by omega)];simp
theorem YJ (l:List Int)(x:Int):-1≤pos l x∧pos l x<l.length:=by
 induction l with
 |nil=>simp[pos]
 |cons z l ih=>
  unfold pos;simp only[List.length_cons];split
  ·omega
  ·split<;>omega
theorem Jv (l:List Int)(x:Int):0≤pos l x↔x∈l:=by
 induction l with
 |nil=>simp[pos]
 |cons z l ih=>
  unfold pos;by_cases h:z=x
  ·subst h;simp
  ·have h':¬x=z:=fun e=>h e.symm;have:=YJ l x;rw[if_neg h];simp only[QhZ,h',false_or,←ih];split<;>omega
theorem Qf1 (l:List Int)(z x:Int):pos (l++ [z]) x=if x∈l then pos l x else if z=x then(l.length:Int)else-1:=by
 induction l with
 |nil=>
  by_cases h:z=x<;>simp[pos,h]
 |cons y l ih=>
  have hb:=YJ l x;have hm:=Jv l x;rw[List.cons_append];unfold pos;rw[ih];by_cases h:y=x
  ·subst h;simp
  ·have h':¬x=y:=fun e=>h e.symm;by_cases hx:x∈l
   ·simp[h,hx]
   ·simp only[h,h',hx,QhZ,if_false,or_self,List.length_cons];by_cases hz:z=x
    ·simp only[hz,if_true];rw[if_neg (by omega)];simp
    ·simp[hz]
def whs (l:List Int)(n:Nat):List Int:=(List.range n).map fun(i:Nat)=>pos l (i:Int)
theorem Yd (l:List Int)(n:Nat):(whs l n).length=n:=by simp[whs]
theorem PM (l:List Int)(n i:Nat)(h:i<(whs l n).length):(whs l n)[i]=pos l (i:Int):=by simp[whs]
theorem Ka (l:List Int)(n:Nat)(x:Int)(h0:0≤x)(h:x.toNat<(whs l n).length):(whs l n)[x.toNat]=pos l x:=by
 rw[PM];congr 1;omega
theorem QbR (n:Nat):whs [] n=List.replicate n (-1):=by
 apply List.ext_getElem
 ·simp[whs]
 ·intro i h1 h2;simp[whs,pos]
theorem QbS (l:List Int)(n:Nat)(z:Int)(hz:z∉l)(h0:0≤z):whs (l++ [z]) n=(whs l n).set z.toNat (l.length:Int):=by
 apply List.ext_getElem
 ·simp[whs]
 ·intro i h2 h3;have hi:i<n:=by simpa[whs]using h2
  rw[List.getElem_set,PM,Qf1];by_cases e:z.toNat=i
  ·have ez:z=(i:Int):=by omega
   rw[if_pos e,if_neg (by rw[←ez];exact hz),if_pos ez]
  ·have ez:¬z=(i:Int):=by omega
   rw[if_neg e,PM,if_neg ez];have hb:=YJ l (i:Int);have hm:=Jv l (i:Int);split
   ·rfl
   ·rename_i hn;have:¬0≤pos l (i:Int):=fun e=>hn (hm.1 e);omega
theorem QfI {l:List Int}(h:l.Nodup){k:Nat}(hk:k<l.length):l[k]∉l.take k:=by
 intro hm;obtain⟨i,hi,e⟩:=List.getElem_of_mem hm;rw[List.getElem_take]at e;have hik:i<k:=by have:=List.length_take_le k l;omega
 exact List.pairwise_iff_getElem.1 h i k (by omega) hk hik e
def Qg (ws:List (Int×Int))(x:List Int):List (Int×Int):=(ws.filter fun p=>decide (0≤pos x p.1)).map fun p=>(pos x p.1,pos x p.2)
theorem QbE (ws:List (Int×Int))(x:List Int)(k:Nat)(hk:k<ws.length):Qg (ws.take (k+1)) x=if decide (0≤pos x ws[k].1)=true then Qg (ws.take k) x++ [(pos x ws[k].1,pos x ws[k].2)]else Qg (ws.take k) x:=by
 unfold Qg;rw[List.take_succ_eq_append_getElem hk,List.filter_append];by_cases h:decide (0≤pos x ws[k].1)=true
 ·simp only[List.filter_cons,h,if_true,List.filter_nil,List.map_append,List.map_cons,List.map_nil]
 ·simp only[List.filter_cons,h,List.filter_nil];simp
theorem QbD (ws:List (Int×Int))(x:List Int)(k:Nat):(Qg (ws.take k) x).length≤k:=by
 unfold Qg;rw[List.length_map];exact Nat.le_trans (List.length_filter_le _ _) (List.length_take_le _ _)
theorem V6 (ws:List (Int×Int))(x:List Int):(Qg ws x).length≤ws.length:=by
 unfold Qg;rw[List.length_map];exact List.length_filter_le _ _
def Zj (os:List (Int×ByteArray×List Int))(x:List Int)(p:Int):Int×ByteArray×List Int:=
 match os[p.toNat]? with
 |none=>(0,⟨#[]⟩,[])
 |some o=>(o.1,o.2.1,o.2.2.map (wh x))
theorem Pj {os:List Ob}{x:List Int}{p:Int}{i:Nat}(hx:p.toNat=i)(hi:i<os.length):Zj (os.map Ob.p) x p=(os[i].k,os[i].t,os[i].r.map (wh x)):=by
 subst hx;simp[Zj,List.getElem?_map,List.getElem?_eq_getElem hi,Ob.p]
structure UF where
 o:List (Int×ByteArray×List Int)
 r:List Int
 w:List (Int×Int)
 d:List (Int×Int)
def lookP (a:List (Int×ByteArray×List Int)×List Int×List (Int×Int)×List (Int×Int)):UF:=
 ⟨(reachP a).map (Zj a.1 (reachP a)),a.2.1.map (wh (reachP a)),Qg a.2.2.1 (reachP a),Qg a.2.2.2 (reachP a)⟩
def Q8 (a b:List (Int×ByteArray×List Int)×List Int×List (Int×Int)×List (Int×Int)):Prop:=
 okP a=true∧okP b=true∧lookP a=lookP b
theorem Py {h:Hp}(hok:okP h.p=true)(hs:ZV h)(hcap:∀(i:Nat) (hi:i<h.os.length),h.os[i].r.length≤h.os[i].rcap):Qr h.os.length (reachP h.p):=by
 have E:reachP h.p=traceF (h.os.map Ob.p) h.ds 61 0 (putAll [] h.rs):=by
  simp only[reachP,hok,if_true];rfl
 rw[E];exact Qbz (Y0 hok hs hcap) 61 0 ((Qr.nil _).putAll (fun z hz=>(JT (ZP hok).2.2.2.2.1 z hz).2))
theorem JZ (a:Option Addr)(n cap:Nat)(zs:List Int)(x:Int)(w:World)(hl:zs.length=n)(hn:n≤maxLen)(h:Qi w a zs):
 Calls Cut.prog 36 #[.slice a n cap,.int .i64 x] w fun e w'=>e=.returned (.int .i64 (pos zs x))∧w'=w:=by
 refine(Qad a n cap zs x w hl hn h).mono ?_;rintro e w' ⟨r,rfl,rfl,hr⟩;exact⟨by rw[hr.pos],rfl⟩
theorem Uv (a:Option Addr)(n cap:Nat)(zs:List Int)(x:Int)(w:World)(hl:zs.length=n)(hn:n≤maxLen)(h:Qi w a zs):
 Calls Cut.prog 38 #[.slice a n cap,.int .i64 x] w fun e w'=>e=.returned (.int .i64 (wh zs x))∧w'=w:=by
 by_cases hx:x<0
 ·have E:Hid (wh zs x= -1):=by simp[Hid,wh,hx]
  go_enter (Cut.func_of Tryz.func38 rfl),Tryz.ntmps38;go_wp2;go_ret;exact⟨VS E.out.symm,rfl⟩
 ·have E:Hid (wh zs x=pos zs x):=by simp[Hid,wh,hx]
  have hd:decide (x<0)=false:=by simpa using hx
  go_enter (Cut.func_of Tryz.func38 rfl),Tryz.ntmps38;go_wp2_with fail;refine(JZ a n cap zs x _ hl hn h).mono ?_;rintro e w1 ⟨rfl,rfl⟩;go_wp2;go_ret;exact⟨VS E.out.symm,rfl⟩
theorem OU (a b:Option Addr)(n m ca cb:Nat)(xs ys:List Int)(w:World)(hn:xs.length=n)(hm:ys.length=m)(hx:Qi w a xs)(hy:Qi w b ys)(hn1:n≤maxLen)(hm1:m≤maxLen):
 Calls Cut.prog 54 #[.slice a n ca,.slice b m cb] w fun e w'=>e=.returned (.bool (decide (xs=ys)))∧Below w.heap.size w w':=by
 unfold maxLen at hn1 hm1;by_cases hl:n=m
 ·subst hl;go_enter (Cut.func_of Tryz.func54 rfl),Tryz.ntmps54;go_wp2;go_loopw [5,13] (fun _ i wr=>∃k:Nat,k≤n∧i=.int .i64 k∧xs.take k=ys.take k∧Below w.heap.size w wr) (fun _ i _=>n-(intOf i).toNat)
  case atStart=>exact⟨0,QhX _,rfl,rfl,Below.refl _ _⟩
  case round=>
   obtain⟨k,hk,rfl,htk,hb⟩:=hrel;have HT:Hid (xs.take k=ys.take k):=htk;clear htk;by_cases hlt:k<n
   ·have hkx:k<xs.length:=by omega
    have hky:k<ys.length:=by omega
    obtain⟨b1,o1,rfl,hb1,c1⟩:=hx.get hkx;obtain⟨b2,o2,rfl,hb2,c2⟩:=hy.get hky;have d1:=(hb.cell (p:=⟨b1,o1+k,none⟩) hb1).trans c1;have d2:=(hb.cell (p:=⟨b2,o2+k,none⟩) hb2).trans c2;have hi1:(k:Int)<(n:Int):=by omega
    clear c1 c2;go_wp2_with fail;go_quiet (fail);by_cases he:xs[k]=ys[k]
    ·have hne:(xs[k]!=ys[k])=false:=by simp[he]
     have HE:Hid (xs[k]=ys[k]):=he;clear he;go_wp2;go_roundw
     case rel=>exact⟨k+1,by omega,by go_num,Y8 HT.out hkx hky HE.out,ZX hb _⟩
     case measure=>simp[intOf];omega
    ·have hne:(xs[k]!=ys[k])=true:=by simp[he]
     go_wp2;go_ret;exact⟨by simp[YX hkx hky he],ZX hb _⟩
   ·go_wp2;go_ret;exact⟨by simp[Y7 HT.out (by omega) (by omega)],hb⟩
 ·have hne:((n:Int)!=(m:Int))=true:=by simp;omega
  go_enter (Cut.func_of Tryz.func54 rfl),Tryz.ntmps54;go_wp2;go_ret;have:xs≠ys:=fun e=>hl (by rw[←hn,←hm,e]);exact⟨by simp[this],Below.refl _ _⟩
theorem K8 (a b:Option Addr)(n m ca cb:Nat)(xs ys:List (Int×Int))(w:World)(hn:xs.length=n)(hm:ys.length=m)(hx:Qz w a xs)(hy:Qz w b ys)(hn1:n≤maxLen)(hm1:m≤maxLen):
 Calls Cut.prog 60 #[.slice a n ca,.slice b m cb] w fun e w'=>e=.returned (.bool (decide (xs=ys)))∧Below w.heap.size w w':=by
 unfold maxLen at hn1 hm1;by_cases hl:n=m
 ·subst hl;go_enter (Cut.func_of Tryz.func60 rfl),Tryz.ntmps60;go_wp2;go_loopw [5] (fun i wr=>∃k:Nat,k≤n∧i=.int .i64 k∧xs.take k=ys.take k∧Below w.heap.size w wr) (fun i _=>n-(intOf i).toNat)
  case atStart=>exact⟨0,QhX _,rfl,rfl,Below.refl _ _⟩
  case round=>
   obtain⟨k,hk,rfl,htk,hb⟩:=hrel;have HT:Hid (xs.take k=ys.take k):=htk;clear htk;by_cases hlt:k<n
   ·have hkx:k<xs.length:=by omega
    have hky:k<ys.length:=by omega
    obtain⟨b1,o1,rfl,hb1,c1,c2⟩:=hx.get hkx;obtain⟨b2,o2,rfl,hb2,c3,c4⟩:=hy.get hky;have d1:=(hb.cell (p:=⟨b1,o1+k*2,none⟩) hb1).trans c1;have d2:=(hb.cell (p:=⟨b1,o1+k*2+1,none⟩) hb1).trans c2;have d3:=(hb.cell (p:=⟨b2,o2+k*2,none⟩) hb2).trans c3;have d4:=(hb.cell (p:=⟨b2,o2+k*2+1,none⟩) hb2).trans c4;have hi1:(k:Int)<(n:Int):=by omega
    clear c1 c2 c3 c4;go_wp2_with fail;by_cases he:xs[k]=ys[k]
    ·rw[←he]at d3 d4;have HE:Hid (xs[k]=ys[k]):=he;clear he;go_region
     all_goals
      go_wp2;go_roundw
      case rel=>exact⟨k+1,by omega,by go_num,Y8 HT.out hkx hky HE.out,hb.drew⟩
      case measure=>simp[intOf];omega
    ·have HE:Hid (xs≠ys):=YX hkx hky he;have hpp:¬(xs[k].1=ys[k].1∧xs[k].2=ys[k].2):=fun e=>he (Prod.ext e.1 e.2);clear he;by_cases h1:xs[k].1=ys[k].1
     ·have h2:¬xs[k].2=ys[k].2:=fun e=>hpp ⟨h1,e⟩;clear hpp;go_region
      all_goals
       go_wp2;go_ret;exact⟨by simp[HE.out],hb.drew⟩
     ·clear hpp;go_region
      all_goals
       go_wp2;go_ret;exact⟨by simp[HE.out],hb.drew⟩
   ·go_wp2;go_ret;exact⟨by simp[Y7 HT.out (by omega) (by omega)],hb⟩
 ·have hne:((n:Int)!=(m:Int))=true:=by simp;omega
  go_enter (Cut.func_of Tryz.func60 rfl),Tryz.ntmps60;go_wp2;go_ret;have:xs≠ys:=fun e=>hl (by rw[←hn,←hm,e]);exact⟨by simp[this],Below.refl _ _⟩
theorem OV (a b:Option Addr)(n m ca cb:Nat)(xs ys:List (Int×Int))(w:World)(hn:xs.length=n)(hm:ys.length=m)(hx:Qz w a xs)(hy:Qz w b ys)(hn1:n≤maxLen)(hm1:m≤maxLen):
 Calls Cut.prog 57 #[.slice a n ca,.slice b m cb] w fun e w'=>e=.returned (.bool (decide (xs=ys)))∧Below w.heap.size w w':=by
 unfold maxLen at hn1 hm1;by_cases hl:n=m
 ·subst hl;go_enter (Cut.func_of Tryz.func57 rfl),Tryz.ntmps57;go_wp2;go_loopw [5,13] (fun _ i wr=>∃k:Nat,k≤n∧i=.int .i64 k∧xs.take k=ys.take k∧Below w.heap.size w wr) (fun _ i _=>n-(intOf i).toNat)
  case atStart=>exact⟨0,QhX _,rfl,rfl,Below.refl _ _⟩
  case round=>
   obtain⟨k,hk,rfl,htk,hb⟩:=hrel;have HT:Hid (xs.take k=ys.take k):=htk;clear htk;by_cases hlt:k<n
   ·have hkx:k<xs.length:=by omega
    have hky:k<ys.length:=by omega
    obtain⟨b1,o1,rfl,hb1,c1,c2⟩:=hx.get hkx;obtain⟨b2,o2,rfl,hb2,c3,c4⟩:=hy.get hky;have d1:=(hb.cell (p:=⟨b1,o1+k*2,none⟩) hb1).trans c1;have d2:=(hb.cell (p:=⟨b1,o1+k*2+1,none⟩) hb1).trans c2;have d3:=(hb.cell (p:=⟨b2,o2+k*2,none⟩) hb2).trans c3;have d4:=(hb.cell (p:=⟨b2,o2+k*2+1,none⟩) hb2).trans c4;have hi1:(k:Int)<(n:Int):=by omega
    clear c1 c2 c3 c4;go_wp2_with fail;by_cases he:xs[k]=ys[k]
    ·rw[←he]at d3 d4;have HE:Hid (xs[k]=ys[k]):=he;clear he;go_region
     all_goals
      go_wp2;go_roundw
      case rel=>exact⟨k+1,by omega,by go_num,Y8 HT.out hkx hky HE.out,hb.drew⟩
      case measure=>simp[intOf];omega
    ·have HE:Hid (xs≠ys):=YX hkx hky he;have hpp:¬(xs[k].1=ys[k].1∧xs[k].2=ys[k].2):=fun e=>he (Prod.ext e.1 e.2);clear he;by_cases h1:xs[k].1=ys[k].1
     ·have h2:¬xs[k].2=ys[k].2:=fun e=>hpp ⟨h1,e⟩;clear hpp;go_region
      all_goals
       go_wp2;go_ret;exact⟨by simp[HE.out],hb.drew⟩
     ·clear hpp;go_region
      all_goals
       go_wp2;go_ret;exact⟨by simp[HE.out],hb.drew⟩
   ·go_wp2;go_ret;exact⟨by simp[Y7 HT.out (by omega) (by omega)],hb⟩
 ·have hne:((n:Int)!=(m:Int))=true:=by simp;omega
  go_enter (Cut.func_of Tryz.func57 rfl),Tryz.ntmps57;go_wp2;go_ret;have:xs≠ys:=fun e=>hl (by rw[←hn,←hm,e]);exact⟨by simp[this],Below.refl _ _⟩
theorem Oc {s t:ByteArray}(h:s.toList=t.toList):s=t:=by
 rw[ByteArray.toList_eq,ByteArray.toList_eq]at h;obtain⟨⟨s⟩⟩:=s;obtain⟨⟨t⟩⟩:=t;simp at h;rw[h]
theorem VH {α β:Type}{f g:α→β}{l m:List α}(h:l.map f=m.map g):l.length=m.length:=by
 simpa using congrArg List.length h
theorem QeN (a b:Ob)(xa ya:Option Addr)(xcap ycap:Nat)(x y:List Int)(w:World)(ha:Qi w a.ra a.r)(hb:Qi w b.ra b.r)(hx:Qi w xa x)(hy:Qi w ya y)(hxl:x.length≤maxLen)(hyl:y.length≤maxLen)(hal:a.r.length≤maxLen)(hbl:b.r.length≤maxLen):
 Calls Cut.prog 59 #[.agg #[.int .i64 a.k,.string a.t,.slice a.ra a.r.length a.rcap],.agg #[.int .i64 b.k,.string b.t,.slice b.ra b.r.length b.rcap],.slice xa x.length xcap,.slice ya y.length ycap] w fun e w'=>∃r:Bool,e=.returned (.bool r)∧(r=true↔(a.k,a.t,a.r.map (wh x))=(b.k,b.t,b.r.map (wh y)))∧Below w.heap.size w w':=by
 obtain⟨k1,t1,ra1,c1,r1⟩:=a;obtain⟨k2,t2,ra2,c2,r2⟩:=b;simp only at *;have hal':=hal;have hbl':=hbl;unfold maxLen at hal' hbl';have hB0:Below w.heap.size w ((w.alloc (QhS #[QhT .i64 k1,QhV t1,QhR ra1 r1.length c1] 37)).alloc (QhS #[QhT .i64 k2,QhV t2,QhR ra2 r2.length c2] 37)):=((Below.refl _ w).alloc (QhU _) _).alloc (by simp) _;by_cases hk:k1=k2
 ·by_cases ht:t1=t2
  ·by_cases hl:r1.length=r2.length
   ·subst hk;subst ht;have hK1:Blk ((w.alloc (QhS #[QhT .i64 k1,QhV t1,QhR ra1 r1.length c1] 37)).alloc (QhS #[QhT .i64 k1,QhV t1,QhR ra2 r1.length c2] 37)) w.heap.size [QhT .i64 k1,QhV t1,QhR ra1 r1.length c1] 37:=(Blk.new w _ _).alloc _
    have hK2:Blk ((w.alloc (QhS #[QhT .i64 k1,QhV t1,QhR ra1 r1.length c1] 37)).alloc (QhS #[QhT .i64 k1,QhV t1,QhR ra2 r1.length c2] 37)) (w.heap.size+1) [QhT .i64 k1,QhV t1,QhR ra2 r1.length c2] 37:=by
     have:=Blk.new (w.alloc (QhS #[QhT .i64 k1,QhV t1,QhR ra1 r1.length c1] 37)) [QhT .i64 k1,QhV t1,QhR ra2 r1.length c2] 37;simpa using this
    rw[←hl]at hB0⊢;have HL:Hid (r1.length=r2.length):=hl;clear hl;generalize hn:r1.length=n at *;have HN:Hid (r1.length=n):=hn;clear hn;go_enter (Cut.func_of Tryz.func59 rfl),Tryz.ntmps59;go_wp2;go_loopw [9] (fun i wr=>∃k:Nat,k≤n∧i=.int .i64 k∧(r1.map (wh x)).take k=(r2.map (wh y)).take k∧Below w.heap.size w wr∧Blk wr w.heap.size [QhT .i64 k1,QhV t1,QhR ra1 n c1] 37∧Blk wr (w.heap.size+1) [QhT .i64 k1,QhV t1,QhR ra2 n c2] 37) (fun i _=>n-(intOf i).toNat)
    case atStart=>exact⟨0,QhX _,rfl,rfl,hB0,hK1,hK2⟩
    case round=>
     obtain⟨k,hk,rfl,htk,hbw,q1,q2⟩:=hrel;have HT:Hid ((r1.map (wh x)).take k=(r2.map (wh y)).take k):=htk;clear htk hB0 hK1 hK2;have p1:=q1.cell 2;have p2:=q2.cell 2;simp only[QhY,List.getElem?_cons_succ]at p1 p2;by_cases hlt:k<n
     ·have hk1:k<r1.length:=by have:=HN.out;omega
      have hk2:k<r2.length:=by have:=HN.out;have:=HL.out;omega
      obtain⟨b1,o1,rfl,hb1,e1⟩:=ha.get hk1;obtain⟨b2,o2,rfl,hb2,e2⟩:=hb.get hk2;have d1:=(hbw.cell (p:=⟨b1,o1+k,none⟩) hb1).trans e1;have d2:=(hbw.cell (p:=⟨b2,o2+k,none⟩) hb2).trans e2;have hi1:(k:Int)<(n:Int):=by omega
      have sx:∀m,Qi (wr.drewN m) xa x:=fun m=>hx.below (ZX hbw m) (QhU _);have sy:∀m,Qi (wr.drewN m) ya y:=fun m=>hy.below (ZX hbw m) (QhU _);clear e1 e2;go_wp2_with fail
      go_quiet (first
       |(go_at_call_of 38 (QhR xa x.length xcap);refine Calls.quiet_of_same (Uv xa _ xcap x r1[k] _ rfl hxl ?_);exact sx _)
       |(go_at_call_of 38 (QhR ya y.length ycap);refine Calls.quiet_of_same (Uv ya _ ycap y r2[k] _ rfl hyl ?_);exact sy _))
      have hkm1:k<(r1.map (wh x)).length:=by simpa using hk1
      have hkm2:k<(r2.map (wh y)).length:=by simpa using hk2
      by_cases he:wh x r1[k]=wh y r2[k]
      ·have hne:(wh x r1[k]!=wh y r2[k])=false:=by simp[he]
       have HE:Hid (wh x r1[k]=wh y r2[k]):=he;clear he;go_wp2;go_roundw
       case rel=>exact⟨k+1,by omega,by go_num,Y8 HT.out hkm1 hkm2 (by simpa using HE.out),ZX hbw _,q1,q2⟩
       case measure=>simp[intOf];omega
      ·have hne:(wh x r1[k]!=wh y r2[k])=true:=by simp[he]
       have HE:Hid (r1.map (wh x)≠r2.map (wh y)):=YX hkm1 hkm2 (by simpa using he);clear he;go_wp2;go_ret;exact⟨_,rfl,by simp[HE.out],ZX hbw _⟩
     ·have HE:Hid (r1.map (wh x)=r2.map (wh y)):=Y7 HT.out (by rw[List.length_map];have:=HN.out;omega) (by rw[List.length_map];have:=HN.out;have:=HL.out;omega);go_wp2;go_ret;exact⟨_,rfl,by simp[HE.out],hbw⟩
   ·subst hk;subst ht;have hne:((r1.length:Int)!=(r2.length:Int))=true:=by simp;omega
    go_enter (Cut.func_of Tryz.func59 rfl),Tryz.ntmps59;go_wp2;go_ret;exact⟨_,rfl,by simp only[Bool.false_eq_true,false_iff];intro e;simp only[Prod.mk.injEq]at e;exact hl (VH e.2.2),hB0⟩
  ·subst hk
   have h1:(t1.toList ==t2.toList)=false:=by
    rw[beq_eq_false_iff_ne];exact fun e=>ht (Oc e)
   go_enter (Cut.func_of Tryz.func59 rfl),Tryz.ntmps59;go_wp2;go_ret;exact⟨_,rfl,by simp[ht],hB0⟩
 ·have hne:(k1 !=k2)=true:=by simp[hk]
  go_enter (Cut.func_of Tryz.func59 rfl),Tryz.ntmps59;go_wp2;go_ret;exact⟨_,rfl,by simp[hk],hB0⟩
end
end Go.Proofs.YtcpnkpogebjieaaGreat
