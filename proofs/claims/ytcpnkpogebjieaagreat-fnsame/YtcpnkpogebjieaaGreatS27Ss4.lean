/- The specification's own copy of one object. -/
import Derived.Test.YtcpnkpogebjieaaGreatS26Da
import Derived.Test.YtcpnkpogebjieaaGreatS16Sr1
open Go.Value renaming slice→QhR,int→QhX,string→QhY
open Nat renaming le_refl→QhS
open Go.Obj renaming cells→QhT
open List renaming set_cons_zero→QhU,set_cons_succ→QhV,setIfInBounds_toArray→QhW,length_map→QhZ
set_option maxHeartbeats 3200000
set_option maxRecDepth 100000
namespace Go.Proofs.YtcpnkpogebjieaaGreat
section
open Go.RowKit
theorem K5 (o:Ob)(w:World)(hr:Qi w o.ra o.r)(hl:o.r.length≤1048576):
 Calls Cut.prog 37 #[.agg #[.int .i64 o.k,.string o.t,.slice o.ra o.r.length o.rcap]] w fun e w'=>∃(a:Option Addr) (c:Nat),e=.returned (.agg #[.int .i64 o.k,.string o.t,.slice a o.r.length c])∧Qa w' w.heap.size (.slice a o.r.length c) o.r∧Below w.heap.size w w':=by
 obtain⟨k0,t0,ra0,rc0,r0⟩:=o;dsimp only at *;obtain⟨i0,hi,hz0,hz1,hz2⟩:=info_parts Je;have hB:Below w.heap.size w (((w.alloc (QhT #[QhX .i64 k0,QhY t0,QhR ra0 r0.length rc0] 37)).alloc (QhT #[QhX .i64 0,QhY ⟨#[]⟩,QhR none 0 0] 37)).alloc (QhT #[] 3)):=(((Below.refl _ w).alloc (QhS _) _).alloc (by simp) _).alloc (by simp;omega) _
 have hO:(((w.alloc (QhT #[QhX .i64 k0,QhY t0,QhR ra0 r0.length rc0] 37)).alloc (QhT #[QhX .i64 0,QhY ⟨#[]⟩,QhR none 0 0] 37)).alloc (QhT #[] 3)).ownsRow w.heap.size 3 1 (.slice (some ⟨w.heap.size+1+1,0,none⟩) 0 0) 0 []:=by
  have:=World.ownsRow_lit (e:=3) (size:=1) (base:=w.heap.size) ((w.alloc (QhT #[QhX .i64 k0,QhY t0,QhR ra0 r0.length rc0] 37)).alloc (QhT #[QhX .i64 0,QhY ⟨#[]⟩,QhR none 0 0] 37)) #[] 0 (by simp;omega) (Nat.zero_le _) rfl;simpa using this
 have hsr:=(hr.below hB (QhS _)).src;have hb1:Blk (((w.alloc (QhT #[QhX .i64 k0,QhY t0,QhR ra0 r0.length rc0] 37)).alloc (QhT #[QhX .i64 0,QhY ⟨#[]⟩,QhR none 0 0] 37)).alloc (QhT #[] 3)) w.heap.size [QhX .i64 k0,QhY t0,QhR ra0 r0.length rc0] 37:=((Blk.new w _ _).alloc _).alloc _
 have hb2:Blk (((w.alloc (QhT #[QhX .i64 k0,QhY t0,QhR ra0 r0.length rc0] 37)).alloc (QhT #[QhX .i64 0,QhY ⟨#[]⟩,QhR none 0 0] 37)).alloc (QhT #[] 3)) (w.heap.size+1) [QhX .i64 0,QhY ⟨#[]⟩,QhR none 0 0] 37:=by
  have:=(Blk.new (w.alloc (QhT #[QhX .i64 k0,QhY t0,QhR ra0 r0.length rc0] 37)) [QhX .i64 0,QhY ⟨#[]⟩,QhR none 0 0] 37).alloc (QhT #[] 3);simpa using this
 obtain⟨W0,hW0⟩:∃W0,W0=(((w.alloc (QhT #[QhX .i64 k0,QhY t0,QhR ra0 r0.length rc0] 37)).alloc (QhT #[QhX .i64 0,QhY ⟨#[]⟩,QhR none 0 0] 37)).alloc (QhT #[] 3)):=⟨_,rfl⟩;rw[←hW0]at hB hO hsr hb1 hb2;go_enter (Cut.func_of Tryz.func37 rfl),Tryz.ntmps37;go_wp2_with (at_builtin;rw[←hW0];refine Kc _ rfl _ _ 24 rfl w.heap.size 3 i0 (.int .i64 0) 1 8 ((Cut.under_eq 24).trans Tryz.underlying24) hi hz0 hz1 hz2 rfl (by decide) _ _ _ rfl hO ra0 r0.length rc0 (r0.map (QhX .i64)) rfl (by simp) hsr (UT _) ?c1 ?c2 hB.size ?_)
 case c1=>unfold maxLen;omega
 case c2=>omega
 intro v' w2 hown hgr hat;rw[←hW0]at hgr;clear hW0;have hne1:=Qs hO hb1 (by decide);have hne2:=Qs hO hb2 (by decide);have hc1:=hb1.grown hgr hne1;have hc2:=hb2.grown hgr hne2;have ho:Qa w2 w.heap.size v' r0:=by unfold Qa;simpa using hown
 have hbw:Below w.heap.size w w2:=hB.trans (QJ hgr hB.size (fun k e=>(hO.lt k e).1));obtain⟨va,vc,rfl,-⟩:=ho.form;obtain⟨x0,x1,x2⟩:w2.cell? ⟨w.heap.size,0,none⟩=some (.int .i64 k0)∧w2.cell? ⟨w.heap.size,1,none⟩=some (.string t0)∧w2.cell? ⟨w.heap.size,2,none⟩=some (.slice ra0 r0.length rc0):=⟨hc1.cell 0,hc1.cell 1,hc1.cell 2⟩;obtain⟨y0,y1,y2⟩:w2.cell? ⟨w.heap.size+1,0,none⟩=some (.int .i64 0)∧w2.cell? ⟨w.heap.size+1,1,none⟩=some (.string ⟨#[]⟩)∧w2.cell? ⟨w.heap.size+1,2,none⟩=some (.slice none 0 0):=⟨hc2.cell 0,hc2.cell 1,hc2.cell 2⟩;have f0:=hc1.free 2;have g0:=hc2.free 0;have g1:=hc2.free 1;have g2:=hc2.free 2;have hs1:=hc1.store 2 (.slice va r0.length vc);have hs2:=hc2.other ⟨w.heap.size,2,none⟩ (.slice va r0.length vc) (by dsimp only;omega);have k1:Qf 37 w2 (w2.setCell ⟨w.heap.size,2,none⟩ (.slice va r0.length vc)):=Qf.set hc1 2 _;have ht1:=hs2.store 0 (.int .i64 k0);have ht2:=ht1.store 1 (.string t0);have ht3:=ht2.store 2 (.slice va r0.length vc);have k4:=((k1.trans (Qf.set hs2 0 (.int .i64 k0))).trans (Qf.set ht1 1 (.string t0))).trans (Qf.set ht2 2 (.slice va r0.length vc));have hoE:Qa _ w.heap.size (.slice va r0.length vc) r0:=Qm ho k4 (by decide);have hbE:=(((hbw.setCell (p:=⟨w.heap.size,2,none⟩) (QhS _) (.slice va r0.length vc)).setCell (p:=⟨w.heap.size+1,0,none⟩) (by dsimp only;omega) (.int .i64 k0)).setCell (p:=⟨w.heap.size+1,1,none⟩) (by dsimp only;omega) (.string t0)).setCell (p:=⟨w.heap.size+1,2,none⟩) (by dsimp only;omega) (.slice va r0.length vc);obtain⟨z0,z1,z2⟩:_∧_∧_:=⟨ht3.cell 0,ht3.cell 1,ht3.cell 2⟩;simp only[QhU,QhV,List.getElem?_cons_zero,List.getElem?_cons_succ]at z0 z1 z2;clear hown hgr hat hB hO hsr hb1 hb2 hne1 hne2 hc1 hc2 hs1 hs2 ht1 ht2 ht3 k1 k4 ho hbw;go_wp2;refine bodyPost_ret (v:=.agg #[.int .i64 k0,.string t0,.slice va r0.length vc]) ?_ rfl ⟨va,vc,rfl,hoE,hbE⟩;simp[results,Tryz.results37,go_sem,z0,z1,z2]
def VG (n:Nat)(l:Array Bool):Nat:=((List.range n).filter fun i=>!l.getD i true).length
theorem Qd8 {α:Type}{p q:α→Bool}:∀ {l:List α} {x:α},x∈l→p x=true→q x=false→(∀y,q y=true→p y=true)→(l.filter q).length<(l.filter p).length:=by
 intro l
 induction l with
 |nil=>intro x hx;simp at hx
 |cons a l ih=>
  intro x hx hp hq hqp
  have hle:(l.filter q).length≤(l.filter p).length:=by
   clear ih hx
   induction l with
   |nil=>simp
   |cons b l ih=>
    simp only[List.filter_cons];by_cases h:q b=true
    ·simp[h,hqp b h,ih]
    ·by_cases h':p b=true
     ·simp[h,h'];omega
     ·simp[h,h',ih]
  rcases List.mem_cons.1 hx with rfl|hx
  ·simp[hp,hq];omega
  ·have:=ih hx hp hq hqp;simp only[List.filter_cons];by_cases h:q a=true
   ·simp[h,hqp a h,this]
   ·by_cases h':p a=true
    ·simp[h,h'];omega
    ·simp[h,h',this]
theorem Qak {n:Nat}{l:Array Bool}{i:Nat}(hi:i<n)(h:l.getD i true=false):VG n (l.setIfInBounds i true)<VG n l:=by
 unfold VG;refine Qd8 (x:=i) (List.mem_range.2 hi) (by simp[h]) ?_ fun y hy=>?_
 ·simp[Array.getD_eq_getD_getElem?,Array.getElem?_setIfInBounds];split<;>simp_all
 ·by_cases e:i=y
  ·subst e;simp[Array.getD_eq_getD_getElem?,Array.getElem?_setIfInBounds]at hy;split at hy<;>simp_all
  ·rw[getD_set_ne true e]at hy;exact hy
theorem QhO {P:Program}{md:Region.Mode}{ops:Array Oper}{Q:Exit→Act→World→Prop}{S:World→Prop}(I:Array Bool→Act→World→Prop)(hS:∀l a w,I l a w→S w)
 (step:∀l a w i o,I l a w→l.getD i true=false→ops[i]? =some o→(∀e∈o.after,Region.binds md e=true→l.getD e.on false=true)→∀K:Act→World→Prop,Shut (∀a' w',I (l.setIfInBounds i true) a' w'→K a' w')→if Region.wanted o (yielded ops a.tmps)=true then Oper.wp P o a w K Q else K (a.put o.dst undef) w)
 (done:∀l a w,I l a w→Region.ready md ops l=[]→Q .normal a w):∀(fuel:Nat) (l:Array Bool) (a:Act) (w:World),VG ops.size l≤fuel→I l a w→wpAnyH P md ops Q S fuel l a w:=by
 intro fuel
 induction fuel with
 |zero=>
  intro l a w hl hI
  have hr:Region.ready md ops l=[]:=by
   rw[List.eq_nil_iff_forall_not_mem];intro i hi;obtain⟨h1,o,ho,_⟩:=mem_ready.1 hi;have hlt:i<ops.size:=(Array.getElem?_eq_some_iff.1 ho).1;have:=Qak hlt h1;omega
  exact⟨hr,done l a w hI hr⟩
 |succ fuel ih=>
  intro l a w hl hI;refine⟨fun hr=>done l a w hI hr,fun i hi=>?_⟩;obtain⟨h1,o,ho,h2⟩:=mem_ready.1 hi;have hlt:i<ops.size:=(Array.getElem?_eq_some_iff.1 ho).1;have hs:=Qak hlt h1;exact wpOp_step ho fun K hK=>step l a w i o hI h1 ho h2 K fun a' w' hI'=>hK a' w' ⟨hS _ _ _ hI',ih _ a' w' (by omega) hI'⟩
theorem Yq {md:Region.Mode}{ops:Array Oper}{l:Array Bool}(h:Region.ready md ops l=[]){i:Nat}{o:Oper}(ho:ops[i]? =some o)(ha:∀e∈o.after,Region.binds md e=true→l.getD e.on false=true):l.getD i true=true:=by
 cases hb:l.getD i true with
 |true=>rfl
 |false=>
  have:i∈Region.ready md ops l:=mem_ready.2 ⟨hb,o,ho,ha⟩;rw[h]at this;simp at this
structure K2 (w W:World) (a b:Hp):Prop where
 below:Below w.heap.size w W
 ba:Blk W w.heap.size a.cs 27
 bb:Blk W (w.heap.size+1) b.cs 27
theorem K2.step {w W W':World}{a b:Hp}(h:K2 w W a b)(hb:Below W.heap.size W W'):K2 w W' a b:=
 ⟨h.below.trans (hb.mono h.below.size),h.ba.below hb h.ba.lt,h.bb.below hb h.bb.lt⟩
theorem K2.start (w:World)(a b:Hp):K2 w ((w.alloc (QhT #[QhR a.oa a.os.length a.ocap,QhR a.ra a.rs.length a.rcap,QhR a.wa a.ws.length a.wcap,QhR a.da a.ds.length a.dcap] 27)).alloc (QhT #[QhR b.oa b.os.length b.ocap,QhR b.ra b.rs.length b.rcap,QhR b.wa b.ws.length b.wcap,QhR b.da b.ds.length b.dcap] 27)) a b:=by
 refine⟨((Below.refl _ _).alloc (QhS _) _).alloc (by simp) _,(Blk.new w a.cs _).alloc _,?_⟩;have:=Blk.new (w.alloc (QhT #[QhR a.oa a.os.length a.ocap,QhR a.ra a.rs.length a.rcap,QhR a.wa a.ws.length a.wcap,QhR a.da a.ds.length a.dcap] 27)) b.cs 27;rw[World.size_alloc]at this;exact this
theorem K2.cells {w W:World}{a b:Hp}(h:K2 w W a b):
 (W.cell? ⟨w.heap.size,0,none⟩=some (.slice a.oa a.os.length a.ocap)∧W.cell? ⟨w.heap.size,1,none⟩=some (.slice a.ra a.rs.length a.rcap)∧W.cell? ⟨w.heap.size,2,none⟩=some (.slice a.wa a.ws.length a.wcap)∧W.cell? ⟨w.heap.size,3,none⟩=some (.slice a.da a.ds.length a.dcap))∧
 (W.cell? ⟨w.heap.size+1,0,none⟩=some (.slice b.oa b.os.length b.ocap)∧W.cell? ⟨w.heap.size+1,1,none⟩=some (.slice b.ra b.rs.length b.rcap)∧W.cell? ⟨w.heap.size+1,2,none⟩=some (.slice b.wa b.ws.length b.wcap)∧W.cell? ⟨w.heap.size+1,3,none⟩=some (.slice b.da b.ds.length b.dcap)):=
 ⟨Qu h.ba,Qu h.bb⟩
theorem Qa0 {a b:Hp}{X Y:List Int}(ha:okP a.p=true)(hb:okP b.p=true)(hX:reachP a.p=X)(hY:reachP b.p=Y):
 Q8 a.p b.p↔a.rs.map (wh X)=b.rs.map (wh Y)∧X.map (Zj (a.os.map Ob.p) X)=Y.map (Zj (b.os.map Ob.p) Y)∧Qg a.ws X=Qg b.ws Y∧Qg a.ds X=Qg b.ds Y:=by
 unfold Q8 lookP;rw[hX,hY];constructor
 ·rintro⟨_,_,h⟩;rw[UF.mk.injEq]at h;exact⟨h.2.1,h.1,h.2.2⟩
 ·rintro⟨h1,h2,h3⟩;refine⟨ha,hb,?_⟩;rw[UF.mk.injEq];exact⟨h2,h1,h3⟩
structure Fit (w:World) (h:Hp):Prop where
 isIn:Qj w h
 small:ZV h
 txt:∀i (hi:i<h.os.length),h.os[i].t.size≤maxLen
 cap:∀(i:Nat) (hi:i<h.os.length),h.os[i].r.length≤h.os[i].rcap
theorem Fit.below {w w':World}{h:Hp}{B:Nat}(hf:Fit w h)(hb:Below B w w')(hB:w.heap.size≤B):Fit w' h:=⟨hf.isIn.below hb hB,hf.small,hf.txt,hf.cap⟩
theorem Qbm {P:Program}{ops:Array Oper}{Q:Exit→Act→World→Prop}{md:Region.Mode}{S:World→Prop}{i:Nat}{oi:Oper}{v:Value}{fuel:Nat}{listed:Array Bool}{a:Act}{w:World}(d:Nat)(hi:ops[i]? =some oi)(hd:oi.dst=some d)
 (hs:Region.noSelect ops=true)(hf:Region.free md ops listed i=true)(hr:(Region.ready md ops listed).contains i=true)
 (hQ:∀c a w,Q (.panic c) (a.put oi.dst v) w→Q (.panic c) a w)(hy:YieldsIf P ops S oi v a)(hS:S w)
 (h:wpAnyH P md ops Q S fuel (listed.setIfInBounds i true) {a with tmps:=a.tmps.setIfInBounds d v} w):wpAnyH P md ops Q S (fuel+1) listed a w:=
 wpAnyH_take hi hs hf hr hQ hy hS (by rw[hd];exact h)
theorem tk {P:Program}{ops:Array Oper}{Q:Exit→Act→World→Prop}{md:Region.Mode}{S:World→Prop}{oi:Oper}{v:Value}{fuel:Nat}{listed:Array Bool}{a:Act}{w:World}(i d:Nat)(hi:ops[i]? =some oi)(hd:oi.dst=some d)(hS:S w)
 (h:wpAnyH P md ops Q S fuel (listed.setIfInBounds i true) {a with tmps:=a.tmps.setIfInBounds d v} w)
 (hy:YieldsIf P ops S oi v a:=by(refine Or.inl ⟨by rfl,?_⟩;intro W hSw;(try dsimp only at hSw);go_simp;(try with_reducible rfl)))(hs:Region.noSelect ops=true:=by kernel_rfl)(hf:Region.free md ops listed i=true:=by kernel_rfl)(hr:(Region.ready md ops listed).contains i=true:=by kernel_rfl)
 (hQ:∀c a w,Q (.panic c) (a.put oi.dst v) w→Q (.panic c) a w:=by exact fun _ _ _ h=>h):wpAnyH P md ops Q S (fuel+1) listed a w:=Qbm d hi hd hs hf hr hQ hy hS h
theorem tku {P:Program}{ops:Array Oper}{Q:Exit→Act→World→Prop}{md:Region.Mode}{S:World→Prop}{oi:Oper}{fuel:Nat}{listed:Array Bool}{a:Act}{w:World}(i d:Nat)(hi:ops[i]? =some oi)(hd:oi.dst=some d)(hS:S w)
 (h:wpAnyH P md ops Q S fuel (listed.setIfInBounds i true) {a with tmps:=a.tmps.setIfInBounds d undef} w)
 (hy:YieldsIf P ops S oi undef a:=by exact Or.inr ⟨by rfl,rfl⟩)(hs:Region.noSelect ops=true:=by kernel_rfl)(hf:Region.free md ops listed i=true:=by kernel_rfl)(hr:(Region.ready md ops listed).contains i=true:=by kernel_rfl)
 (hQ:∀c a w,Q (.panic c) (a.put oi.dst undef) w→Q (.panic c) a w:=by exact fun _ _ _ h=>h):wpAnyH P md ops Q S (fuel+1) listed a w:=Qbm d hi hd hs hf hr hQ hy hS h
theorem Qcn {w4 W W2:World}(h:Below w4.heap.size w4 W)(hb:Below W.heap.size W W2):Below w4.heap.size w4 W2:=h.trans (hb.mono h.size)
theorem Yi {p q r s t:Prop}(h:p∧q∧r∧s∧t):t:=h.2.2.2.2
theorem Vx {w4 W W2:World}{p q r s:Prop}(h:p∧q∧r∧s∧Below w4.heap.size w4 W)(hb:Below W.heap.size W W2):Below w4.heap.size w4 W2:=h.2.2.2.2.trans (hb.mono h.2.2.2.2.size)
theorem QgO (a b:Hp)(w:World)(ha:Fit w a)(hb:Fit w b):
 Calls Cut.prog 21 #[a.v,b.v] w fun e w'=>∃r:Bool,e=.returned (.bool r)∧(r=true↔Q8 a.p b.p)∧Below w.heap.size w w':=by
 have hK:=K2.start w a b;have c1:=Y5 a _ (ha.isIn.below hK.below (QhS _)) ha.small ha.txt;go_enter (Cut.func_of Tryz.func21 rfl),Tryz.ntmps21;simp only[Hp.v]at c1⊢;go_wp2_with fail;refine c1.mono ?_;rintro e w1 ⟨rfl,hb1⟩;have hK1:=hK.step hb1;clear c1 hb1 hK
 cases hoka:okP a.p with
 |false=>
  have HF:Hid (¬Q8 a.p b.p):=fun h=>by have:=h.1;rw[hoka]at this;simp at this
  clear hoka;have hlt:=hK1.bb.lt;go_wp2;go_ret;exact⟨_,rfl,by simp[HF.out],hK1.below⟩
 |true=>
  have HA:Hid (okP a.p=true):=hoka;clear hoka;have c2:=Y5 b _ (hb.isIn.below hK1.below (QhS _)) hb.small hb.txt;simp only[Hp.v]at c2;obtain⟨⟨a0,a1,a2,a3⟩,b0,b1,b2,b3⟩:=hK1.cells;go_wp2_with fail;refine c2.mono ?_;rintro e w2 ⟨rfl,hb2⟩;have hK2:=hK1.step hb2;clear c2 hb2 hK1 a0 a1 a2 a3 b0 b1 b2 b3;obtain⟨⟨a0,a1,a2,a3⟩,b0,b1,b2,b3⟩:=hK2.cells
  cases hokb:okP b.p with
  |false=>
   have HF:Hid (¬Q8 a.p b.p):=fun h=>by have:=h.2.1;rw[hokb]at this;simp at this
   clear hokb;go_wp2;go_ret;exact⟨_,rfl,by simp[HF.out],hK2.below⟩
  |true=>
   have HB:Hid (okP b.p=true):=hokb;clear hokb;by_cases hl:a.rs.length=b.rs.length
   ·have hne:((a.rs.length:Int)!=(b.rs.length:Int))=false:=by simp[hl]
    have HL:Hid (a.rs.length=b.rs.length):=hl;clear hl;have hra:=fun z hz=>(JT (ZP HA.out).2.2.2.2.1 z hz).2;have hrb:=fun z hz=>(JT (ZP HB.out).2.2.2.2.1 z hz).2;have c3:=VD a w2 (ha.isIn.below hK2.below (QhS _)) ha.small (Y0 HA.out ha.small ha.cap) hra;simp only[Hp.v]at c3;go_wp2_with fail;refine c3.mono ?_;rintro e w3 ⟨xv,rfl,hox,hpx,hb3⟩;have hK3:=hK2.step hb3;clear c3 hb3 hK2 a0 a1 a2 a3 b0 b1 b2 b3;obtain⟨⟨a0,a1,a2,a3⟩,b0,b1,b2,b3⟩:=hK3.cells;have c4:=VD b w3 (hb.isIn.below hK3.below (QhS _)) hb.small (Y0 HB.out hb.small hb.cap) hrb;simp only[Hp.v]at c4;clear hra hrb;go_wp2_with fail;refine c4.mono ?_;rintro e w4 ⟨yv,rfl,hoy,hpy,hb4⟩;have hK4:=hK3.step hb4;have hox4:=hox.below hb4 (QhS _);clear c4 hb4 hK3 a0 a1 a2 a3 b0 b1 b2 b3 hox
    have EX:reachP a.p=traceF (a.os.map Ob.p) a.ds 61 0 (putAll [] a.rs):=by
     simp only[reachP,HA.out,if_true];rfl
    have EY:reachP b.p=traceF (b.os.map Ob.p) b.ds 61 0 (putAll [] b.rs):=by
     simp only[reachP,HB.out,if_true];rfl
    generalize traceF (a.os.map Ob.p) a.ds 61 0 (putAll [] a.rs)=X at *;generalize traceF (b.os.map Ob.p) b.ds 61 0 (putAll [] b.rs)=Y at *;have HS:Hid (Q8 a.p b.p↔a.rs.map (wh X)=b.rs.map (wh Y)∧X.map (Zj (a.os.map Ob.p) X)=Y.map (Zj (b.os.map Ob.p) Y)∧Qg a.ws X=Qg b.ws Y∧Qg a.ds X=Qg b.ds Y):=Qa0 HA.out HB.out EX EY;clear EX EY;obtain⟨xa,xcap,rfl,sx,-,-⟩:=hox4.form;obtain⟨ya,ycap,rfl,sy,-,-⟩:=hoy.form;have hX60:X.length≤60:=Nat.le_trans hpx.len (ZP HA.out).1;have hY60:Y.length≤60:=Nat.le_trans hpy.len (ZP HB.out).1;have hr8:a.rs.length≤8:=(ZP HA.out).2.1;clear hox4 hoy;by_cases hxy:X.length=Y.length
    ·have hne2:((X.length:Int)!=(Y.length:Int))=false:=by simp[hxy]
     have HXY:Hid (X.length=Y.length):=hxy;clear hxy;go_wp2;go_loopw [7] (fun i wr=>∃k:Nat,k≤a.rs.length∧i=.int .i64 k∧(a.rs.map (wh X)).take k=(b.rs.map (wh Y)).take k∧Below w4.heap.size w4 wr) (fun i _=>a.rs.length-(intOf i).toNat)
     case atStart=>exact⟨0,Nat.zero_le _,rfl,rfl,Below.refl _ _⟩
     case round=>
      obtain⟨k,hk,rfl,htk,hbr⟩:=hrel;have HT:Hid ((a.rs.map (wh X)).take k=(b.rs.map (wh Y)).take k):=htk;clear htk;have hKr:=hK4.step hbr;obtain⟨⟨a0,a1,a2,a3⟩,b0,b1,b2,b3⟩:=hKr.cells;by_cases hlt:k<a.rs.length
      ·have hk2:k<b.rs.length:=by have:=HL.out;omega
       obtain⟨p1,o1,q1,hp1,e1⟩:=ha.isIn.sr.get hlt;obtain⟨p2,o2,q2,hp2,e2⟩:=hb.isIn.sr.get hk2;rw[q1]at a1;rw[q2]at b1;have d1:=(hKr.below.cell (p:=⟨p1,o1+k,none⟩) hp1).trans e1;have d2:=(hKr.below.cell (p:=⟨p2,o2+k,none⟩) hp2).trans e2;have hi1:(k:Int)<(a.rs.length:Int):=by omega
       have hi2:(k:Int)<(b.rs.length:Int):=by omega
       have sxr:∀m,Qi (wr.drewN m) xa X:=fun m=>sx.below (ZX hbr m) (QhS _);have syr:∀m,Qi (wr.drewN m) ya Y:=fun m=>sy.below (ZX hbr m) (QhS _);have hXm:X.length≤maxLen:=by unfold maxLen;omega
       have hYm:Y.length≤maxLen:=by unfold maxLen;omega
       clear e1 e2 q1 q2;go_wp2_with fail
       go_quiet (first
        |(go_at_call_of 38 (QhR xa X.length xcap);refine Calls.quiet_of_same (Uv xa _ xcap X a.rs[k] _ rfl hXm ?_);exact sxr _)
        |(go_at_call_of 38 (QhR ya Y.length ycap);refine Calls.quiet_of_same (Uv ya _ ycap Y b.rs[k] _ rfl hYm ?_);exact syr _))
       have hkm1:k<(a.rs.map (wh X)).length:=by simpa using hlt
       have hkm2:k<(b.rs.map (wh Y)).length:=by simpa using hk2
       by_cases he:wh X a.rs[k]=wh Y b.rs[k]
       ·have hne:(wh X a.rs[k]!=wh Y b.rs[k])=false:=by simp[he]
        have HE:Hid (wh X a.rs[k]=wh Y b.rs[k]):=he;clear he;go_wp2;go_roundw
        case rel=>exact⟨k+1,by omega,by go_num,Y8 HT.out hkm1 hkm2 (by simpa using HE.out),ZX hbr _⟩
        case measure=>simp[intOf];omega
       ·have hne:(wh X a.rs[k]!=wh Y b.rs[k])=true:=by simp[he]
        have HF:Hid (¬Q8 a.p b.p):=fun h=>YX hkm1 hkm2 (by simpa using he) (HS.out.1 h).1;clear he;have hbe:=hKr.below;go_wp2;go_ret;exact⟨_,rfl,by simp[HF.out],ZX hbe _⟩
      ·have HR:Hid (a.rs.map (wh X)=b.rs.map (wh Y)):=Y7 HT.out (by rw[QhZ];omega) (by rw[QhZ];have:=HL.out;omega);clear HT hKr;go_wp2;clear a0 a1 a2 a3 b0 b1 b2 b3;go_loopw [8] (fun i wr=>∃k:Nat,k≤X.length∧i=.int .i64 k∧(X.map (Zj (a.os.map Ob.p) X)).take k=(Y.map (Zj (b.os.map Ob.p) Y)).take k∧Below w4.heap.size w4 wr) (fun i _=>X.length-(intOf i).toNat)
       case atStart=>exact⟨0,Nat.zero_le _,rfl,rfl,hbr⟩
       case round=>
        clear hbr hlt hk;obtain⟨k,hk,rfl,htk,hbr⟩:=hrel;have HT:Hid ((X.map (Zj (a.os.map Ob.p) X)).take k=(Y.map (Zj (b.os.map Ob.p) Y)).take k):=htk;clear htk;have hKr:=hK4.step hbr;obtain⟨⟨a0,a1,a2,a3⟩,b0,b1,b2,b3⟩:=hKr.cells;by_cases hlt:k<X.length
        ·have hk2:k<Y.length:=by have:=HXY.out;omega
         have hkm1:k<(X.map (Zj (a.os.map Ob.p) X)).length:=by simpa using hlt
         have hkm2:k<(Y.map (Zj (b.os.map Ob.p) Y)).length:=by simpa using hk2
         have hz1:=hpx.rng X[k] (List.getElem_mem hlt);have hz2:=hpy.rng Y[k] (List.getElem_mem hk2);have hn1:X[k].toNat<a.os.length:=by omega
         have hn2:Y[k].toNat<b.os.length:=by omega
         have HO1:Hid ((X.map (Zj (a.os.map Ob.p) X))[k]=(a.os[X[k].toNat].k,a.os[X[k].toNat].t,a.os[X[k].toNat].r.map (wh X))):=by
          show _=_;rw[List.getElem_map,Pj rfl hn1]
         have HO2:Hid ((Y.map (Zj (b.os.map Ob.p) Y))[k]=(b.os[Y[k].toNat].k,b.os[Y[k].toNat].t,b.os[Y[k].toNat].r.map (wh Y))):=by
          show _=_;rw[List.getElem_map,Pj rfl hn2]
         obtain⟨px,ox,qx,hpx',ex⟩:=sx.get hlt;obtain⟨py,oy,qy,hpy',ey⟩:=sy.get hk2;obtain⟨p1,o1,q1,hp1,e1,e2,e3⟩:=ha.isIn.so.get hn1;obtain⟨p2,o2,q2,hp2,f1,f2,f3⟩:=hb.isIn.so.get hn2;have sxr:Qi wr.drew xa X:=sx.below hbr.drew (QhS _);have syr:Qi wr.drew ya Y:=sy.below hbr.drew (QhS _);have hXm:X.length≤maxLen:=by unfold maxLen;omega
         have hYm:Y.length≤maxLen:=by unfold maxLen;omega
         have hrl1:a.os[X[k].toNat].r.length≤maxLen:=by have:=ha.small.oo _ hn1;unfold maxLen;omega
         have hrl2:b.os[Y[k].toNat].r.length≤maxLen:=by have:=hb.small.oo _ hn2;unfold maxLen;omega
         have cA:=QeN a.os[X[k].toNat] b.os[Y[k].toNat] xa ya xcap ycap X Y wr.drew ((ha.isIn.so.2 _ hn1).below hKr.below.drew (QhS _)) ((hb.isIn.so.2 _ hn2).below hKr.below.drew (QhS _)) sxr syr hXm hYm hrl1 hrl2;rw[q1]at a0;rw[q2]at b0;subst qx;subst qy;have g1:=(hKr.below.cell (p:=⟨p1,o1+X[k].toNat*3,none⟩) hp1).trans e1;have g2:=(hKr.below.cell (p:=⟨p1,o1+X[k].toNat*3+1,none⟩) hp1).trans e2;have g3:=(hKr.below.cell (p:=⟨p1,o1+X[k].toNat*3+2,none⟩) hp1).trans e3;have g4:=(hKr.below.cell (p:=⟨p2,o2+Y[k].toNat*3,none⟩) hp2).trans f1;have g5:=(hKr.below.cell (p:=⟨p2,o2+Y[k].toNat*3+1,none⟩) hp2).trans f2;have g6:=(hKr.below.cell (p:=⟨p2,o2+Y[k].toNat*3+2,none⟩) hp2).trans f3;have g7:=(hbr.cell (p:=⟨px,ox+k,none⟩) hpx').trans ex;have g8:=(hbr.cell (p:=⟨py,oy+k,none⟩) hpy').trans ey;have hi1:(k:Int)<(X.length:Int):=by omega
         have hi2:(k:Int)<(Y.length:Int):=by omega
         obtain⟨hz10,hz11⟩:=hz1;obtain⟨hz20,hz21⟩:=hz2;have hws:=hKr.below.size;have hw4:=hbr.size
         have HSS:Hid (∀W,Below wr.heap.size wr.drew W→
          (W.cell? ⟨w.heap.size,0,none⟩=some (.slice (some ⟨p1,o1,none⟩) a.os.length a.ocap)∧W.cell? ⟨w.heap.size+1,0,none⟩=some (.slice (some ⟨p2,o2,none⟩) b.os.length b.ocap)∧W.cell? ⟨px,ox+k,none⟩=some (.int .i64 X[k])∧W.cell? ⟨py,oy+k,none⟩=some (.int .i64 Y[k])∧
          W.cell? ⟨p1,o1+X[k].toNat*3,none⟩=some (.int .i64 a.os[X[k].toNat].k)∧W.cell? ⟨p1,o1+X[k].toNat*3+1,none⟩=some (.string a.os[X[k].toNat].t)∧W.cell? ⟨p1,o1+X[k].toNat*3+2,none⟩=some (.slice a.os[X[k].toNat].ra a.os[X[k].toNat].r.length a.os[X[k].toNat].rcap)∧
          W.cell? ⟨p2,o2+Y[k].toNat*3,none⟩=some (.int .i64 b.os[Y[k].toNat].k)∧W.cell? ⟨p2,o2+Y[k].toNat*3+1,none⟩=some (.string b.os[Y[k].toNat].t)∧W.cell? ⟨p2,o2+Y[k].toNat*3+2,none⟩=some (.slice b.os[Y[k].toNat].ra b.os[Y[k].toNat].r.length b.os[Y[k].toNat].rcap))∧Below w4.heap.size w4 W):=fun W hW=>by
          have h0:=hKr.ba.lt;have h1:=hKr.bb.lt;have hl1:p1<wr.heap.size:=by omega
          have hl2:p2<wr.heap.size:=by omega
          have hl3:px<wr.heap.size:=by omega
          have hl4:py<wr.heap.size:=by omega
          exact⟨⟨(hW.cell (p:=⟨w.heap.size,0,none⟩) h0).trans a0,(hW.cell (p:=⟨w.heap.size+1,0,none⟩) h1).trans b0,(hW.cell (p:=⟨px,ox+k,none⟩) hl3).trans g7,(hW.cell (p:=⟨py,oy+k,none⟩) hl4).trans g8,
           (hW.cell (p:=⟨p1,_,none⟩) hl1).trans g1,(hW.cell (p:=⟨p1,_,none⟩) hl1).trans g2,(hW.cell (p:=⟨p1,_,none⟩) hl1).trans g3,(hW.cell (p:=⟨p2,_,none⟩) hl2).trans g4,(hW.cell (p:=⟨p2,_,none⟩) hl2).trans g5,(hW.cell (p:=⟨p2,_,none⟩) hl2).trans g6⟩,hbr.drew.trans (hW.mono hw4)⟩
         obtain⟨S0,-⟩:=HSS.out wr.drew (Below.refl _ _);have hbK:=hK4.below;clear ex ey e1 e2 e3 f1 f2 f3 q1 q2 sxr syr hrl1 hrl2 g1 g2 g3 g4 g5 g6 g7 g8 a0 a1 a2 a3 b0 b1 b2 b3 hKr;go_wp2_with fail
         go_region_held3 (fun W=>W.cell? ⟨w.heap.size,0,none⟩=some (.slice (some ⟨p1,o1,none⟩) a.os.length a.ocap)∧W.cell? ⟨w.heap.size+1,0,none⟩=some (.slice (some ⟨p2,o2,none⟩) b.os.length b.ocap)∧W.cell? ⟨px,ox+k,none⟩=some (.int .i64 X[k])∧W.cell? ⟨py,oy+k,none⟩=some (.int .i64 Y[k])∧
          W.cell? ⟨p1,o1+X[k].toNat*3,none⟩=some (.int .i64 a.os[X[k].toNat].k)∧W.cell? ⟨p1,o1+X[k].toNat*3+1,none⟩=some (.string a.os[X[k].toNat].t)∧W.cell? ⟨p1,o1+X[k].toNat*3+2,none⟩=some (.slice a.os[X[k].toNat].ra a.os[X[k].toNat].r.length a.os[X[k].toNat].rcap)∧
          W.cell? ⟨p2,o2+Y[k].toNat*3,none⟩=some (.int .i64 b.os[Y[k].toNat].k)∧W.cell? ⟨p2,o2+Y[k].toNat*3+1,none⟩=some (.string b.os[Y[k].toNat].t)∧W.cell? ⟨p2,o2+Y[k].toNat*3+2,none⟩=some (.slice b.os[Y[k].toNat].ra b.os[Y[k].toNat].r.length b.os[Y[k].toNat].rcap)) (assumption)
          (first
            |(go_at_call 59;refine cA.mono ?_;rintro e w5 ⟨r,rfl,hr,hb5⟩;obtain⟨S1,hb6⟩:=HSS.out w5 hb5))
         all_goals
          have HR5:Hid (r=true↔(a.os[X[k].toNat].k,a.os[X[k].toNat].t,a.os[X[k].toNat].r.map (wh X))=(b.os[Y[k].toNat].k,b.os[Y[k].toNat].t,b.os[Y[k].toNat].r.map (wh Y))):=hr;clear hr cA S0 HSS S1
          cases r with
          |false=>
           have HF:Hid (¬Q8 a.p b.p):=fun h=>by
            have h1:=(HS.out.1 h).2.1
            have h2:(X.map (Zj (a.os.map Ob.p) X))[k]≠(Y.map (Zj (b.os.map Ob.p) Y))[k]:=by
             rw[HO1.out,HO2.out];intro e;have:=HR5.out.2 e;simp at this
            exact YX hkm1 hkm2 h2 h1
           have hbe:=hbK.trans (hb6.mono hbK.size);clear HO1 HO2;go_wp2;go_ret;exact⟨_,rfl,by simp[HF.out],hbe⟩
          |true=>
           have HE:Hid ((X.map (Zj (a.os.map Ob.p) X))[k]=(Y.map (Zj (b.os.map Ob.p) Y))[k]):=by
            show _=_;rw[HO1.out,HO2.out];exact HR5.out.1 rfl
           clear HO1 HO2;go_wp2;go_roundw
           case rel=>exact⟨k+1,by omega,by go_num,Y8 HT.out hkm1 hkm2 HE.out,hb6⟩
           case measure=>simp[intOf];omega
        ·have HOB:Hid (X.map (Zj (a.os.map Ob.p) X)=Y.map (Zj (b.os.map Ob.p) Y)):=Y7 HT.out (by rw[QhZ];omega) (by rw[QhZ];have:=HXY.out;omega)
         have HFull:Hid (∀W,Below w4.heap.size w4 W→(W.cell? ⟨w.heap.size,2,none⟩=some (.slice a.wa a.ws.length a.wcap)∧W.cell? ⟨w.heap.size+1,2,none⟩=some (.slice b.wa b.ws.length b.wcap)∧W.cell? ⟨w.heap.size,3,none⟩=some (.slice a.da a.ds.length a.dcap)∧W.cell? ⟨w.heap.size+1,3,none⟩=some (.slice b.da b.ds.length b.dcap)∧Below w4.heap.size w4 W)):=fun W hW=>by
          obtain⟨⟨_,_,h2,h3⟩,_,_,h6,h7⟩:=(hK4.step hW).cells;exact⟨h2,h6,h3,h7,hW⟩
         have HA:Hid (∀W,Below w4.heap.size w4 W→Qz W a.wa a.ws):=fun W hW=>ha.isIn.sw.below (hK4.step hW).below (QhS _);have HB:Hid (∀W,Below w4.heap.size w4 W→Qz W b.wa b.ws):=fun W hW=>hb.isIn.sw.below (hK4.step hW).below (QhS _);have HC:Hid (∀W,Below w4.heap.size w4 W→Qz W a.da a.ds):=fun W hW=>ha.isIn.sd.below (hK4.step hW).below (QhS _);have HD:Hid (∀W,Below w4.heap.size w4 W→Qz W b.da b.ds):=fun W hW=>hb.isIn.sd.below (hK4.step hW).below (QhS _);have HXs:Hid (∀W,Below w4.heap.size w4 W→Qi W xa X):=fun W hW=>sx.below hW (QhS _);have HYs:Hid (∀W,Below w4.heap.size w4 W→Qi W ya Y):=fun W hW=>sy.below hW (QhS _);have hXm:X.length≤maxLen:=by unfold maxLen;omega
         have hYm:Y.length≤maxLen:=by unfold maxLen;omega
         have hlA:(Qg a.ws X).length≤maxLen:=by have:=V6 a.ws X;have:=ha.small.w;unfold maxLen;omega
         have hlB:(Qg b.ws Y).length≤maxLen:=by have:=V6 b.ws Y;have:=hb.small.w;unfold maxLen;omega
         have hlC:(Qg a.ds X).length≤maxLen:=by have:=V6 a.ds X;have:=ha.small.d;unfold maxLen;omega
         have hlD:(Qg b.ds Y).length≤maxLen:=by have:=V6 b.ds Y;have:=hb.small.d;unfold maxLen;omega
         have hbK:=hK4.below;have hsw:=ha.small;have hsb:=hb.small;clear HT hKr a0 a1 a2 a3 b0 b1 b2 b3 sx sy hK4 hpx hpy HL HXY;by_cases hW:Qg a.ws X=Qg b.ws Y
         ·have hWd:decide (Qg a.ws X=Qg b.ws Y)=true:=by simpa using hW
          have HW:Hid (Qg a.ws X=Qg b.ws Y):=hW;clear hW;go_wp2_with fail;go_region_held3 (fun W=>W.cell? ⟨w.heap.size,2,none⟩=some (.slice a.wa a.ws.length a.wcap)∧W.cell? ⟨w.heap.size+1,2,none⟩=some (.slice b.wa b.ws.length b.wcap)∧W.cell? ⟨w.heap.size,3,none⟩=some (.slice a.da a.ds.length a.dcap)∧W.cell? ⟨w.heap.size+1,3,none⟩=some (.slice b.da b.ds.length b.dcap)∧Below w4.heap.size w4 W) (first|exact HFull.out _ hbr.drew|exact HFull.out _ (Vx (by assumption) (by assumption)))
          (first
            |(go_at_call_of 61 (QhR a.wa a.ws.length a.wcap);refine(Uu a.wa a.wcap a.ws xa xcap X _ (HA.out _ (Yi (by assumption))) ha.small.w (HXs.out _ (Yi (by assumption))) hXm).mono ?_;rintro e wA ⟨vA,rfl,hoA,hbA⟩;obtain⟨qA,cA,rfl,hsA,-,-⟩:=hoA.form)
            |(go_at_call_of 61 (QhR b.wa b.ws.length b.wcap);refine(Uu b.wa b.wcap b.ws ya ycap Y _ (HB.out _ (Yi (by assumption))) hb.small.w (HYs.out _ (Yi (by assumption))) hYm).mono ?_;rintro e wB ⟨vB,rfl,hoB,hbB⟩;obtain⟨qB,cB,rfl,hsB,-,-⟩:=hoB.form)
            |(go_at_call_of 60 (QhR qA (Qg a.ws X).length cA);refine(K8 qA qB _ _ cA cB (Qg a.ws X) (Qg b.ws Y) _ rfl rfl (by first|exact hsA|exact hsA.below hbB (QhS _)) (by first|exact hsB|exact hsB.below hbA (QhS _)) hlA hlB).mono ?_;rintro e wE ⟨he,hbE⟩;rw[hWd]at he;subst he)
            |(go_at_call_of 61 (QhR a.da a.ds.length a.dcap);refine(Uu a.da a.dcap a.ds xa xcap X _ (HC.out _ (Yi (by assumption))) ha.small.d (HXs.out _ (Yi (by assumption))) hXm).mono ?_;rintro e wC ⟨vC,rfl,hoC,hbC⟩;obtain⟨qC,cC,rfl,hsC,-,-⟩:=hoC.form)
            |(go_at_call_of 61 (QhR b.da b.ds.length b.dcap);refine(Uu b.da b.dcap b.ds ya ycap Y _ (HD.out _ (Yi (by assumption))) hb.small.d (HYs.out _ (Yi (by assumption))) hYm).mono ?_;rintro e wD ⟨vD,rfl,hoD,hbD⟩;obtain⟨qD,cD,rfl,hsD,-,-⟩:=hoD.form)
            |(go_at_call_of 60 (QhR qC (Qg a.ds X).length cC);refine(K8 qC qD _ _ cC cD (Qg a.ds X) (Qg b.ds Y) _ rfl rfl (by first|exact hsC|exact hsC.below hbD (QhS _)) (by first|exact hsD|exact hsD.below hbC (QhS _)) hlC hlD).mono ?_;rintro e wF ⟨rfl,hbF⟩))
          all_goals
           have hbE:=hbK.trans ((Yi (by assumption):Below w4.heap.size w4 _).mono hbK.size);go_wp2;go_ret;exact⟨_,rfl,by rw[HS.out];simp[HR.out,HOB.out,HW.out],hbE⟩
         ·have hWd:decide (Qg a.ws X=Qg b.ws Y)=false:=by simpa using hW
          have HF:Hid (¬Q8 a.p b.p):=fun h=>hW (HS.out.1 h).2.2.1;clear hW;go_wp2_with fail;refine wp_region_held_drew (S:=(fun W=>W.cell? ⟨w.heap.size,2,none⟩=some (.slice a.wa a.ws.length a.wcap)∧W.cell? ⟨w.heap.size+1,2,none⟩=some (.slice b.wa b.ws.length b.wcap)∧W.cell? ⟨w.heap.size,3,none⟩=some (.slice a.da a.ds.length a.dcap)∧W.cell? ⟨w.heap.size+1,3,none⟩=some (.slice b.da b.ds.length b.dcap)∧Below w4.heap.size w4 W)) (by kernel_rfl) (HFull.out _ hbr.drew) (fun hHeld=>?_);refine tk 0 83 rfl rfl hHeld ?_;simp only[QhW,QhU,QhV];refine tk 1 84 rfl rfl hHeld ?_;simp only[QhW,QhU,QhV];refine tk 2 85 rfl rfl hHeld ?_;simp only[QhW,QhU,QhV];refine tk 4 87 rfl rfl hHeld ?_;simp only[QhW,QhU,QhV];refine tk 5 88 rfl rfl hHeld ?_;simp only[QhW,QhU,QhV];refine tk 6 89 rfl rfl hHeld ?_;simp only[QhW,QhU,QhV];refine wpAnyH_ready (rs:=[3]) (by kernel_rfl) (by simp) ?_;refine AllReadyH.cons (o:=_) rfl (fun K hK=>?_) AllReadyH.nil;go_simp;refine(Uu a.wa a.wcap a.ws xa xcap X _ (HA.out _ hHeld.2.2.2.2) ha.small.w (HXs.out _ hHeld.2.2.2.2) hXm).mono ?_;rintro e wA ⟨vA,rfl,hoA,hbA⟩;obtain⟨qA,cA,rfl,hsA,-,-⟩:=hoA.form;refine hK.out _ _ (HFull.out _ (Vx hHeld hbA)) (fun hHeld1=>?_);clear hK;refine wpAnyH_ready (rs:=[7]) (by kernel_rfl) (by simp) ?_;refine AllReadyH.cons (o:=_) rfl (fun K hK=>?_) AllReadyH.nil;go_simp;refine(Uu b.wa b.wcap b.ws ya ycap Y _ (HB.out _ hHeld1.2.2.2.2) hb.small.w (HYs.out _ hHeld1.2.2.2.2) hYm).mono ?_;rintro e wB ⟨vB,rfl,hoB,hbB⟩;obtain⟨qB,cB,rfl,hsB,-,-⟩:=hoB.form;refine hK.out _ _ (HFull.out _ (Vx hHeld1 hbB)) (fun hHeld2=>?_);clear hK;refine wpAnyH_ready (rs:=[8]) (by kernel_rfl) (by simp) ?_;refine AllReadyH.cons (o:=_) rfl (fun K hK=>?_) AllReadyH.nil;go_simp;refine(K8 qA qB _ _ cA cB (Qg a.ws X) (Qg b.ws Y) _ rfl rfl (hsA.below hbB (QhS _)) (hsB) hlA hlB).mono ?_;rintro e wE ⟨he,hbE⟩;rw[hWd]at he;subst he;refine hK.out _ _ (HFull.out _ (Vx hHeld2 hbE)) (fun hHeld3=>?_);clear hK;refine tk 9 92 rfl rfl hHeld3 ?_;simp only[QhW,QhU,QhV];refine tku 10 93 rfl rfl hHeld3 ?_;simp only[QhW,QhU,QhV];refine tku 11 94 rfl rfl hHeld3 ?_;simp only[QhW,QhU,QhV];refine tku 12 95 rfl rfl hHeld3 ?_;simp only[QhW,QhU,QhV];refine tku 13 96 rfl rfl hHeld3 ?_;simp only[QhW,QhU,QhV];refine tku 14 97 rfl rfl hHeld3 ?_;simp only[QhW,QhU,QhV];refine tku 15 98 rfl rfl hHeld3 ?_;simp only[QhW,QhU,QhV];refine tku 16 99 rfl rfl hHeld3 ?_;simp only[QhW,QhU,QhV];refine tku 17 100 rfl rfl hHeld3 ?_;simp only[QhW,QhU,QhV];refine tku 18 101 rfl rfl hHeld3 ?_;simp only[QhW,QhU,QhV];refine tk 19 102 rfl rfl hHeld3 ?_;simp only[QhW,QhU,QhV];refine tk 20 4 rfl rfl hHeld3 ?_;simp only[QhW,QhU,QhV];refine wpAnyH_done (by kernel_rfl) ?_ _;have hbX:=Qcn hbK hHeld3.2.2.2.2;go_wp2;go_ret;exact⟨_,rfl,by simp[HF.out],hbX⟩
    ·have hne2:((X.length:Int)!=(Y.length:Int))=true:=by simp;omega
     have HF:Hid (¬Q8 a.p b.p):=fun h=>hxy (VH (HS.out.1 h).2.1);clear hxy;go_wp2;go_ret;exact⟨_,rfl,by simp[HF.out],hK4.below⟩
   ·have hne:((a.rs.length:Int)!=(b.rs.length:Int))=true:=by simp;omega
    have HF:Hid (¬Q8 a.p b.p):=fun h=>by
     have:=((Qa0 HA.out HB.out rfl rfl).1 h).1;exact hl (VH this)
    go_wp2;go_ret;exact⟨_,rfl,by simp[HF.out],hK2.below⟩
end
end Go.Proofs.YtcpnkpogebjieaaGreat
