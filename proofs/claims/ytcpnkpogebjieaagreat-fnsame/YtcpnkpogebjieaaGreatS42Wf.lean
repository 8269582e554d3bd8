/- The program's own moved: a heap behind telling with just what can be come to. -/
import Derived.Test.YtcpnkpogebjieaaGreatS41Vg
import Derived.Test.YtcpnkpogebjieaaGreatS14ImplOk4
import Derived.Test.YtcpnkpogebjieaaGreatS39Vq
import Derived.Test.YtcpnkpogebjieaaGreatS28Lo
import Derived.Test.YtcpnkpogebjieaaGreatS40Xa
import Derived.Test.YtcpnkpogebjieaaGreatS17Ca
open Go.Value renaming slice→QhR,pointer→QhU,ownBlock→QhW
open Nat renaming le_refl→QhS
open Go.Obj renaming cells→QhT
open List renaming getElem?_cons_zero→QhV,getElem?_cons_succ→QhX,getElem?_toArray→QhY
open Go.World renaming ownsRow_nil→QhZ,putObj_heap_other→Qh0,setCell→Qh1
set_option maxHeartbeats 4000000
set_option maxRecDepth 100000
namespace Go.Proofs.YtcpnkpogebjieaaGreat
section
open Go.RowKit Go.Shelf
attribute [local go_sem] Oper.semAt_some
def Jk (os:List Ob)(pre:List Int):List (Ob×Int):=os.zip (whs pre os.length)
theorem KY (os:List Ob)(pre:List Int):(Jk os pre).length=os.length:=by simp[Jk,Yd]
theorem Qem (os:List Ob)(pre:List Int)(i:Nat)(h:i<(Jk os pre).length)(h':i<os.length):(Jk os pre)[i].1=os[i]:=by simp[Jk]
theorem Qen (os:List Ob):Jk os []=os.map fun o=>(o,-1):=by
 unfold Jk;rw[QbR]
 induction os with
 |nil=>rfl
 |cons o os ih=>simp[List.replicate_succ,ih]
theorem Qeo (os:List Ob)(pre:List Int):(Jk os pre).map (fun x=>x.2)=whs pre os.length:=by
 unfold Jk;exact List.map_snd_zip (by rw[Yd];exact QhS _)
theorem QhQ (os:List Ob)(zs:List Int)(hl:zs.length=os.length)(i:Nat)(hi:i<os.length)(z:Int):(os.zip zs).set i (os[i],z)=os.zip (zs.set i z):=by
 induction os generalizing zs i with
 |nil=>simp at hi
 |cons o os ih=>
  cases zs with
  |nil=>simp at hl
  |cons y zs=>
   cases i with
   |zero=>simp
   |succ i=>simp;exact ih zs (by simpa using hl) i (by simpa using hi)
theorem Qep (os:List Ob)(pre:List Int)(z:Int)(hz:z∉pre)(h0:0≤z)(hl:z.toNat<os.length):(Jk os pre).set z.toNat (os[z.toNat],(pre.length:Int))=Jk os (pre++ [z]):=by
 unfold Jk;rw[QhQ _ _ (Yd _ _) _ hl,←QbS _ _ _ hz h0]
structure MO (w:World) (h:Hp) (Bv Bm N2:Nat) (W:World) (vo vt:Value) (pre:List Int):Prop where
 tt:TO w h W
 mv:Mv W Bv Bv vo vt (Jk h.os pre) (pick h.os pre)
 bm:Blk W Bm [.pointer (some ⟨Bv,0,none⟩)] 93
 vl:∀k,vo.ownBlock=some k→k<N2
def HoM (w:World)(h:Hp)(Bv Bm N2:Nat)(M:Nat→Prop)(pre:List Int)(W:World):Prop:=
 (∀k,M k→N2≤k∧k<W.heap.size)∧N2≤W.heap.size∧∃vo vt,MO w h Bv Bm N2 W vo vt pre∧∀k,vt.ownBlock=some k→¬M k
section
variable {w:World} {h:Hp} {Bv Bm N2:Nat} (hv:Bv<N2) (hm:Bm<N2) (h2:w.heap.size+1<Bv)
include hv hm h2
theorem MO.same {W W':World}{vo vt:Value}{pre:List Int}(t:MO w h Bv Bm N2 W vo vt pre)(hs:∀k,k<N2→W'.heap[k]? =W.heap[k]?)(ht:∀k,vt.ownBlock=some k→W'.heap[k]? =W.heap[k]?)(hbe:Below w.heap.size w W'):MO w h Bv Bm N2 W' vo vt pre:=
 ⟨⟨t.tt.bh.same (hs _ (by omega)),t.tt.br.same (hs _ (by omega)),hbe⟩,⟨t.mv.bx.same (hs _ hv),VU t.mv.ol (fun k e=>hs k (t.vl k e)),VU t.mv.tk ht⟩,t.bm.same (hs _ hm),t.vl⟩
theorem HoM.chg (M:Nat→Prop)(pre:List Int)(A C:World)(H:HoM w h Bv Bm N2 M pre A)(hc:Chg M A C):HoM w h Bv Bm N2 (Z9 M A C) pre C:=by
 obtain⟨hM,hs,vo,vt,t,ht⟩:=H;have hcs:=hc.size;refine⟨fun k hk=>?_,Nat.le_trans hs hc.size,vo,vt,t.same hv hm h2 (fun k hk=>hc.block k (by omega) (fun q=>by have:=(hM k q).1;omega)) (fun k e=>hc.block k (t.mv.tk.lt k e).2 (ht k e)) ?_,fun k e hk=>?_⟩
 ·rcases hk with hk|hk
  ·have:=hM k hk;omega
  ·omega
 ·exact t.tt.be.trans ⟨hc.os,hc.tape,hc.output,hc.size,fun k hk=>hc.block k (by have:=t.tt.be.size;omega) (fun q=>by have:=(hM k q).1;omega)⟩
 ·rcases hk with hk|hk
  ·exact ht k e hk
  ·have:=(t.mv.tk.lt k e).2;omega
theorem HoM.put {s:Nat}(hs2:N2≤s)(M:Nat→Prop)(pre:List Int)(A:World)(k:Nat)(o o':Obj)(H:HoM w h Bv Bm N2 M pre A)(hk:s≤k)(hl:A.heap[k]? =some o)(hn:o.isCells=false):HoM w h Bv Bm N2 M pre (A.putObj k o'):=by
 obtain⟨hM,hs,vo,vt,t,ht⟩:=H;have hg:=grownBy_putObj' A k o';refine⟨fun x hx=>by simpa using hM x hx,by simpa using hs,vo,vt,t.same hv hm h2 (fun x hx=>Qh0 (by omega)) (fun x e=>Qh0 fun q=>?_) (t.tt.be.trans (QJ hg t.tt.be.size (fun x e=>by cases e;omega))),ht⟩;subst q;have:=VT t.mv.tk e hl;rw[hn]at this
 cases this
omit hv hm h2 in
theorem HoM.al (M:Nat→Prop)(pre:List Int)(A:World)(o:Obj)(H:HoM w h Bv Bm N2 M pre A):HoM w h Bv Bm N2 M pre (A.alloc o):=by
 obtain⟨hM,hs,vo,vt,t,ht⟩:=H;exact⟨fun x hx=>by have:=hM x hx;simp;omega,by simp;omega,vo,vt,⟨t.tt.step (QC _ _),t.mv.step (QC _ _),t.bm.step (QC _ _),t.vl⟩,ht⟩
end
theorem Qf.putObj {t:Nat}{A:World}{D:Nat}{o:Obj}(h:A.heap[D]? =some o)(ho:o.isCells=false)(o':Obj):Qf t A (A.putObj D o'):=fun k cs e hk _=>by
 refine(Qh0 fun q=>?_).trans hk;subst q;rw[h]at hk
 cases hk
 cases ho
theorem Qfw (h:Hp)(w:World)(hf:Fit w h)(hok:okP h.p=true):
 Calls Cut.prog 32 #[h.v] w fun e w'=>∃(y:Hp) (gv:Value) (N:Nat),e=.returned (.tuple #[y.v,gv])∧y.p=((pick h.os (reachP h.p)).map (QI (reachP h.p)),h.rs.map (wh (reachP h.p)),Qg h.ws (reachP h.p),Qg h.ds (reachP h.p))∧Q4 w' N y∧Qa w' w.heap.size gv (whs (reachP h.p) h.os.length)∧(∀k,gv.ownBlock=some k→k<N)∧w.heap.size≤N∧Below w.heap.size w w':=by
 have hpl:=Py hok hf.small hf.cap;have hn60:=(ZP hok).1;have hro:=JT (ZP hok).2.2.2.2.1;have hwo:=JH (h:=h) (ZP hok).2.2.2.2.2.1;have hdo:=JH (h:=h) (ZP hok).2.2.2.2.2.2;have hrf:=Qax hok
 have E:Hid (reachP h.p=traceF (h.os.map Ob.p) h.ds 61 0 (putAll [] h.rs)):=by
  show _=_;simp only[reachP,hok,if_true];rfl
 have T0:TO w h ((w.alloc (QhT #[QhR h.oa h.os.length h.ocap,QhR h.ra h.rs.length h.rcap,QhR h.wa h.ws.length h.wcap,QhR h.da h.ds.length h.dcap] 27)).alloc (QhT #[QhR none 0 0,QhR none 0 0,QhR none 0 0,QhR none 0 0] 27)):=by
  refine⟨(Blk.new w [QhR h.oa h.os.length h.ocap,QhR h.ra h.rs.length h.rcap,QhR h.wa h.ws.length h.wcap,QhR h.da h.ds.length h.dcap] 27).alloc _,?_,((Below.refl _ _).alloc (QhS _) _).alloc (by simp) _⟩;have:=Blk.new (w.alloc (QhT #[QhR h.oa h.os.length h.ocap,QhR h.ra h.rs.length h.rcap,QhR h.wa h.ws.length h.wcap,QhR h.da h.ds.length h.dcap] 27)) [QhR none 0 0,QhR none 0 0,QhR none 0 0,QhR none 0 0] 27;rw[World.size_alloc]at this;exact this
 have hsz0:((w.alloc (QhT #[QhR h.oa h.os.length h.ocap,QhR h.ra h.rs.length h.rcap,QhR h.wa h.ws.length h.wcap,QhR h.da h.ds.length h.dcap] 27)).alloc (QhT #[QhR none 0 0,QhR none 0 0,QhR none 0 0,QhR none 0 0] 27)).heap.size=w.heap.size+1+1:=by simp
 have c1:=QfB h.oa h.ocap h.os _ (hf.isIn.so.below T0.be (QhS _)) hn60;rw[hsz0]at c1;refine(callsIn_wide (n:=10)).1 ?_;have hror:Fence.wide.round=none:=rfl;refine callsIn_of_wp_marks (Cut.func_of Tryz.func32 rfl) rfl trivial ?_ hror;refine wpIn_wide.2 (QbV ?_);simp only[Hp.v,Tryz.ntmps32,List.size_toArray,List.length_cons,List.length_nil,Nat.reduceAdd,Nat.reduceSub,Array.replicate_succ,Array.replicate_zero,List.push_toArray,List.append_toArray,List.nil_append,List.cons_append];go_wp2_with fail;refine c1.mono ?_;rintro e w1 ⟨vo,rfl,M1,hb1⟩;have T1:=T0.step (by rw[hsz0];exact hb1);clear c1 hb1 T0 hsz0;obtain⟨x0,x1,x2,x3⟩:=Qb T1.bh;have hlt1:=T1.sz;have hlt0:w.heap.size<w1.heap.size:=by omega
 have hA1:=QC w1 (QhT #[QhU (some ⟨w.heap.size+1+1,0,none⟩)] 93);have M2:=M1.step hA1;have T2:=T1.step hA1;have bm2:=Blk.new w1 [QhU (some ⟨w.heap.size+1+1,0,none⟩)] 93;have c2:=Om h (w1.alloc (QhT #[QhU (some ⟨w.heap.size+1+1,0,none⟩)] 93));simp only[Hp.v]at c2;go_wp2_with fail;refine c2.mono ?_;rintro e w5 ⟨rfl,hw5⟩;clear c2;rw[E.out]at hpl;have hA5:Below (w1.alloc (QhT #[QhU (some ⟨w.heap.size+1+1,0,none⟩)] 93)).heap.size (w1.alloc (QhT #[QhU (some ⟨w.heap.size+1+1,0,none⟩)] 93)) w5:=by rw[hw5];exact QC _ _
 have T5:=T2.step hA5;have hle:w.heap.size≤w5.heap.size:=T5.be.size;have hN2:w1.heap.size+1<w5.heap.size:=by rw[hw5];simp
 have hBx:Blk w5 (w1.heap.size+1) [QhR h.oa h.os.length h.ocap,QhR h.ra h.rs.length h.rcap,QhR h.wa h.ws.length h.wcap,QhR h.da h.ds.length h.dcap] 27:=by
  have:=Blk.new (w1.alloc (QhT #[QhU (some ⟨w.heap.size+1+1,0,none⟩)] 93)) [QhR h.oa h.os.length h.ocap,QhR h.ra h.rs.length h.rcap,QhR h.wa h.ws.length h.wcap,QhR h.da h.ds.length h.dcap] 27;rw[hw5];simpa using this
 have hseq:=Ol h (10-1) (w1.heap.size+1) w w5 (by omega) hf.isIn T5.be hf.small hok hf.cap hBx
 have hH0:HoM w h (w.heap.size+1+1) w1.heap.size (w1.heap.size+1) (fun k=>k=w1.heap.size+1) [] w5:=by
  refine⟨fun k e=>by omega,by omega,vo,.slice none 0 0,⟨T5,?_,bm2.step hA5,fun k e=>by have:=(M1.ol.lt k e).2;omega⟩,fun k e=>by simp[QhW]at e⟩;rw[Qen];exact M2.step hA5
 have hBv:w.heap.size+1+1<w1.heap.size:=M1.bx.lt;generalize traceF (h.os.map Ob.p) h.ds 61 0 (putAll [] h.rs)=X at hpl hseq E;clear hw5 hBx T5 T1 T2 M1 M2 bm2 hA1 hA5 x0 x1 x2 x3;simp only[World.size_alloc];generalize w1.heap.size=Bm at *;have h10:(1:Nat)≤10:=by omega
 have hXl:=hpl.len;go_wp2_with fail
 refine wpIn_wide.1 (PO (n:=10) hror h10 (gf:=91) (lb:=#[.pointer (some ⟨Bm+1,0,none⟩)]) rfl trivial (enters_of (Cut.func_of Tryz.func91 rfl) (by kernel_rfl) rfl) hle (fun k e=>by omega) hseq (fun _=>rfl) (HoM w h (w.heap.size+1+1) Bm (Bm+1)) (HoM.chg (by omega) (by omega) (by omega)) (HoM.put (by omega) (by omega) (by omega) (by omega)) HoM.al hH0
  (fun x=>{tmps:=#[Value.agg #[QhR h.oa h.os.length h.ocap,QhR h.ra h.rs.length h.rcap,QhR h.wa h.ws.length h.wcap,QhR h.da h.ds.length h.dcap],QhU (some ⟨w.heap.size,0,none⟩),QhU (some ⟨w.heap.size+1,0,none⟩),QhR none 0 0,QhU (some ⟨Bm,0,none⟩),.int .i64 x,undef,QhU (some ⟨w.heap.size,0,none⟩),QhR h.oa h.os.length h.ocap,QhU (some ⟨w.heap.size+1+1,0,none⟩),Value.agg #[QhR h.oa h.os.length h.ocap,QhR h.ra h.rs.length h.rcap,QhR h.wa h.ws.length h.wcap,QhR h.da h.ds.length h.dcap],Value.func (Fn.func 91) #[] #[QhU (some ⟨Bm+1,0,none⟩)],.int .i64 x,undef,undef,undef,undef,undef,undef,undef,undef,undef,undef,undef,undef,undef],defers:=[]}) ?assign ?body ?done)
 case assign=>
  intro l x W K hK
  gi_wp2
  exact hK
 case body=>
  rintro l M pre x W ⟨hM,hNW,vo',vt,C,ht⟩ hp;have hxm:x∈X:=hp.subset (by simp);obtain⟨hx0,hx1⟩:=hpl.rng x hxm
  have hnp:x∉pre:=fun q=>by
   have hnd:=hpl.nd.sublist hp.sublist;rw[List.nodup_append]at hnd;exact hnd.2.2 x q x (by simp) rfl
  have hprl:pre.length≤60:=by
   have:=hp.length_le;simp at this;omega
  have hxt:x.toNat<h.os.length:=by omega
  have hgl:x.toNat<(Jk h.os pre).length:=by rw[KY];exact hxt
  have c6:=Qhg W (w.heap.size+1+1) (w.heap.size+1+1) vo' vt (Jk h.os pre) (pick h.os pre) C.mv x hx0 hgl (by rw[KY];exact hn60) (by rw[Ju];exact hprl) (Nat.le_of_lt C.mv.bx.lt);rw[Qem _ _ _ hgl hxt,Ju,Qep _ _ _ hnp hx0 hxt]at c6
  have epk:pick h.os pre++ [h.os[x.toNat]]=pick h.os (pre++ [x]):=by
   unfold pick;rw[List.map_append];simp[List.getElem?_eq_getElem hxt]
  rw[epk]at c6;have hc:=C.bm.cell 0;simp only[QhV]at hc;have hWs:=C.tt.be.size
  gi_wp2_with fail
  refine⟨trivial,?_⟩;refine(show CallsIn (Fence.wide.inRound l) _ _ _ _ _ _ from callsIn_wide.2 c6).mono ?_;rintro e w6 ⟨vt',rfl,M6,⟨o1,o2,o3,hs6,hk6⟩,hv6⟩
  have HE:Hid (VQ w.heap.size (HoM w h (w.heap.size+1+1) Bm (Bm+1)) M (pre++ [x]) W .normal ⟨#[],[]⟩ w6):=by
   have lowk:∀k,k<W.heap.size→k≠w.heap.size+1+1→vo'.ownBlock≠some k→vt.ownBlock≠some k→w6.heap[k]? =W.heap[k]? :=hk6;have volo:∀k,vo'.ownBlock=some k→w.heap.size+1+1≤k:=fun k e=>(C.mv.ol.lt k e).1;have vtlo:∀k,vt.ownBlock=some k→w.heap.size+1+1≤k:=fun k e=>(C.mv.tk.lt k e).1;have hbe:Below w.heap.size W w6:=⟨o1,o2,o3,hs6,fun k hk=>lowk k (by omega) (by omega) (fun e=>by have:=volo k e;omega) (fun e=>by have:=vtlo k e;omega)⟩;have t6:TO w h w6:=⟨C.tt.bh.same (lowk _ C.tt.bh.lt (by omega) (fun e=>by have:=volo _ e;omega) (fun e=>by have:=vtlo _ e;omega)),C.tt.br.same (lowk _ C.tt.br.lt (by omega) (fun e=>by have:=volo _ e;omega) (fun e=>by have:=vtlo _ e;omega)),C.tt.be.trans hbe⟩;have hbm:w6.heap[Bm]? =W.heap[Bm]? :=lowk Bm C.bm.lt (by omega) (Qs C.mv.ol C.bm (by decide)) (Qs C.mv.tk C.bm (by decide));refine⟨⟨hs6,fun k o hk ho=>?_⟩,fun k hk=>?_,hbe,fun k hk=>⟨(hM k hk).1,?_⟩,by omega,vo',vt',⟨t6,M6,C.bm.same hbm,C.vl⟩,fun k e hk=>?_⟩
   ·refine(lowk k (Array.getElem?_eq_some_iff.1 hk).1 (fun q=>?_) (fun q=>?_) (fun q=>?_)).trans hk
    ·subst q;have:=C.mv.bx;unfold Blk at this;rw[hk]at this
     cases this
     cases ho
    ·rw[VT C.mv.ol q hk]at ho;cases ho
    ·rw[VT C.mv.tk q hk]at ho;cases ho
   ·have:=hM k hk;exact lowk k this.2 (by omega) (fun e=>by have:=C.vl k e;omega) (fun e=>ht k e hk)
   ·have:=(hM k hk).2;omega
   ·rcases hv6 with q|⟨g,q,hg⟩
    ·exact ht k (q▸e) hk
    ·rw[q]at e
     cases e
     have:=(hM _ hk).2;omega
  clear hk6 M6 c6 C hv6
  gi_wp2
  exact HE.out
 case done=>
  rintro D M W hD ⟨hM,hNW,vo',vt,C,ht⟩ hK;have hc:=C.bm.cell 0;simp only[QhV]at hc;have c7:=Qeq W (w.heap.size+1+1) (w.heap.size+1+1) vo' vt _ _ C.mv (by rw[KY];exact hn60);rw[Qeo]at c7;go_wp2_with fail;refine c7.mono ?_;rintro e w7 ⟨gv,rfl,og,hb7⟩;clear c7;obtain⟨ga,gcap,rfl,sg,-⟩:=og.form;rw[Yd]at og⊢;obtain⟨ta,tcap,rfl,-,hsO⟩:=C.mv.tk.form;have hKD:=(Array.getElem?_eq_some_iff.1 hK).1;have T7:=C.tt.step hb7;have M7:=C.mv.step hb7;have bm7:=C.bm.step hb7;have hK7:=(hb7.block D hKD).trans hK;have hw7:=C.tt.be.size;have hogb:∀k,(QhR ga h.os.length gcap).ownBlock=some k→k<w7.heap.size:=fun k e=>(og.lt k e).2
  have hgt:∀i (hi:i<(pick h.os X).length),∃j,∃hj:j<h.os.length,(pick h.os X)[i]=h.os[j]:=fun i hi=>by
   have hix:i<X.length:=by rw[Ju]at hi;exact hi
   obtain⟨q0,q1⟩:=hpl.rng X[i] (List.getElem_mem hix);exact⟨X[i].toNat,by omega,VN hi hix (by omega)⟩
  have hseg:ZE W ta (pick h.os X):=hsO fun i hi=>by
   obtain⟨j,hj,e⟩:=hgt i hi;rw[e];exact(hf.isIn.so.2 j hj).below C.tt.be (QhS _)
  have hpl60:(pick h.os X).length≤1048576:=by rw[Ju];omega
  have hprl:∀i (hi:i<(pick h.os X).length),(pick h.os X)[i].r.length≤1048576:=fun i hi=>by
   obtain⟨j,hj,e⟩:=hgt i hi;rw[e];exact hf.small.oo j hj
  have hpor:∀i (hi:i<(pick h.os X).length),∀z∈(pick h.os X)[i].r,-1≤z∧z<(h.os.length:Int):=fun i hi=>by
   obtain⟨j,hj,e⟩:=hgt i hi;rw[e];exact hrf j hj
  have hdr:Below w7.heap.size w7 w7.drew:=(Below.refl _ _).drew;have c8:=QaF h ta tcap (pick h.os X) h.os.length X ga gcap w7.drew (hf.isIn.below (T7.step hdr).be (QhS _)) hf.small ((hseg.below hb7 (QhS _)).below hdr (QhS _)) hpl60 hprl hpor (sg.below hdr (QhS _)) hro hwo hdo
  have HS:Hid (∀w8,Below w7.drew.heap.size w7.drew w8→((w8.cell? ⟨w.heap.size,0,none⟩=some (.slice h.oa h.os.length h.ocap)∧w8.cell? ⟨w.heap.size,1,none⟩=some (.slice h.ra h.rs.length h.rcap)∧w8.cell? ⟨w.heap.size,2,none⟩=some (.slice h.wa h.ws.length h.wcap)∧w8.cell? ⟨w.heap.size,3,none⟩=some (.slice h.da h.ds.length h.dcap))∧w8.cell? ⟨Bm,0,none⟩=some (.pointer (some ⟨w.heap.size+1+1,0,none⟩))∧w8.cell? ⟨w.heap.size+1+1,1,none⟩=some (.slice ta (pick h.os X).length tcap))∧TO w h w8∧Qa w8 W.heap.size (.slice ga h.os.length gcap) (whs X h.os.length)∧w8.heap[D]? =some (.deferred (some []))):=fun w8 hb8=>by
   have hq:=hdr.trans hb8;exact⟨⟨Qb (T7.step hq).bh,(bm7.step hq).cell 0,(M7.step hq).bx.cell 1⟩,T7.step hq,og.below hq (QhS _),(hq.block D (by have:=hb7.size;omega)).trans hK7⟩
  obtain⟨x0,x1,x2,x3⟩:=Qb T7.bh;have y0:=bm7.cell 0;have y1:=M7.bx.cell 1;simp only[QhV,QhX]at y0 y1;have hb7s:=hb7.size;have hT7:=T7.be.size;have hnB:¬Bm=w.heap.size+1:=by omega
  have hnB':¬w.heap.size+1=Bm:=by omega
  clear C M7 bm7 hseg hsO hgt hK hc ht hM T7;simp only[Hp.v]at c8;go_wp2_with fail;go_region_held3 (fun w'=>(w'.cell? ⟨w.heap.size,0,none⟩=some (.slice h.oa h.os.length h.ocap)∧w'.cell? ⟨w.heap.size,1,none⟩=some (.slice h.ra h.rs.length h.rcap)∧w'.cell? ⟨w.heap.size,2,none⟩=some (.slice h.wa h.ws.length h.wcap)∧w'.cell? ⟨w.heap.size,3,none⟩=some (.slice h.da h.ds.length h.dcap))∧w'.cell? ⟨Bm,0,none⟩=some (.pointer (some ⟨w.heap.size+1+1,0,none⟩))∧w'.cell? ⟨w.heap.size+1+1,1,none⟩=some (.slice ta (pick h.os X).length tcap)) (first|(refine⟨⟨?_,?_,?_,?_⟩,?_,?_⟩<;>with_reducible assumption)|go_keep)
   (first
     |(go_at_call 80;refine c8.mono ?_;rintro e w8 ⟨y,rfl,hp',ho',hb8⟩;obtain⟨⟨⟨p0,p1,p2,p3⟩,p4,p5⟩,T8,og8,hK8⟩:=HS.out w8 hb8;obtain⟨r0,r1,r2,r3⟩:=Qb T8.br;obtain⟨f0,f1,f2,f3⟩:=Qo T8.br))
  all_goals
   obtain⟨kq,bq⟩:=QR T8.br (.slice y.oa y.os.length y.ocap) (.slice y.ra y.rs.length y.rcap) (.slice y.wa y.ws.length y.wcap) (.slice y.da y.ds.length y.dcap);have hOQ:=ho'.keep kq;have hGQ:Qa _ W.heap.size (.slice ga h.os.length gcap) (whs X h.os.length):=Qm og8 kq (by decide);have hBQ:=ZS T8.be (C:=w.heap.size+1) (by omega) (.slice y.oa y.os.length y.ocap) (.slice y.ra y.rs.length y.rcap) (.slice y.wa y.ws.length y.wcap) (.slice y.da y.ds.length y.dcap)
   have hKF:((((w8.setCell ⟨w.heap.size+1,0,none⟩ (.slice y.oa y.os.length y.ocap)).setCell ⟨w.heap.size+1,1,none⟩ (.slice y.ra y.rs.length y.rcap)).setCell ⟨w.heap.size+1,2,none⟩ (.slice y.wa y.ws.length y.wcap)).setCell ⟨w.heap.size+1,3,none⟩ (.slice y.da y.ds.length y.dcap)).heap[D]? =some (.deferred (some [])):=by
    rw[Below.heap_setCell _ _ _ _ (by dsimp only;omega),Below.heap_setCell _ _ _ _ (by dsimp only;omega),Below.heap_setCell _ _ _ _ (by dsimp only;omega),Below.heap_setCell _ _ _ _ (by dsimp only;omega)];exact hK8
   have HP:Hid (y.p=((pick h.os X).map (QI X),h.rs.map (wh X),Qg h.ws X,Qg h.ds X)):=hp';clear kq ho' hp' c8 HS T8 og8 hK8 p0 p1 p2 p3 p4 p5;go_wp2;generalize ((((w8.setCell ⟨w.heap.size+1,0,none⟩ (.slice y.oa y.os.length y.ocap)).setCell ⟨w.heap.size+1,1,none⟩ (.slice y.ra y.rs.length y.rcap)).setCell ⟨w.heap.size+1,2,none⟩ (.slice y.wa y.ws.length y.wcap)).setCell ⟨w.heap.size+1,3,none⟩ (.slice y.da y.ds.length y.dcap))=WF at *;have kD:Qf 27 WF (WF.putObj D (.deferred none)):=Qf.putObj hKF rfl _;have bqF:Blk (WF.putObj D (.deferred none)) (w.heap.size+1) [QhR y.oa y.os.length y.ocap,QhR y.ra y.rs.length y.rcap,QhR y.wa y.ws.length y.wcap,QhR y.da y.ds.length y.dcap] 27:=bq.same (Qh0 (by omega));have hO1:=hOQ.keep kD;have hG1:Qa (WF.putObj D (.deferred none)) W.heap.size (.slice ga h.os.length gcap) (whs X h.os.length):=Qm hGQ kD (by decide);have hBF:=hBQ.trans (belowK_b (w:=w) (QhS _) WF D _ (.deferred none) (by omega) hKF rfl rfl);refine⟨by simp,.inl ⟨_,_,rfl,run_takeDeferred hKF,?_⟩⟩;obtain⟨z0,z1,z2,z3⟩:=Qb bqF;generalize WF.putObj D (.deferred none)=WG at *;refine⟨.tuple #[.agg #[QhR y.oa y.os.length y.ocap,QhR y.ra y.rs.length y.rcap,QhR y.wa y.ws.length y.wcap,QhR y.da y.ds.length y.dcap],.slice ga h.os.length gcap],?_,y,.slice ga h.os.length gcap,w7.drew.heap.size,rfl,by rw[E.out];exact HP.out,hO1,by rw[E.out];exact hG1.base hw7,fun k e=>hogb k e,hT7,hBF⟩;simp[results,Tryz.results32,go_sem,z0,z1,z2,z3]
end
namespace Co
open Go.Conc Go.ConcN Go.RowKit Go.Conc.Lib Go.ConcR.Gen
open Go.ConcR (DC0)
set_option linter.unusedSimpArgs false
noncomputable def mcB:Code:=match Tryz.f8.body with
 |some c=>c
 |_=>.skip
noncomputable def mcT:Code:=match mcB with
 | .seq _ (.seq _ c)=>c
 |_=>.skip
noncomputable def VI:Array Oper:=match mcT with
 | .seq (.region _ ops _) _=>ops
 |_=>#[]
noncomputable def mcC (T:Array Value):Frame:=(base 8).at ⟨T,[]⟩ [.inRegion VI [1,2,3,4,5,6],.code .ret]
def Jt:Hp:=⟨none,0,[],none,0,[],none,0,[],none,0,[]⟩
def McR (h:Hp)(u:World)(c:Code)(a:Act)(w1:World):Prop:=
 c=mcT∧okP h.p=true∧Kg h 13 u a w1
def PW (h:Hp)(u:World)(a:Act)(w1:World):Prop:=
 okP h.p=false∧a.defers=[]∧a.tmps.size=13∧a.tmps[2]? =some (.pointer (some ⟨u.heap.size+1,0,none⟩))∧a.tmps[3]? =some (.slice none 0 0)∧Blk w1 (u.heap.size+1) [.slice none 0 0,.slice none 0 0,.slice none 0 0,.slice none 0 0] 27∧Below u.heap.size u w1
theorem Qfi (h:Hp)(u:World)(hh:Qj u h)(hs:ZV h)(ht:∀i (hi:i<h.os.length),h.os[i].t.size≤maxLen):chain Cut.prog (McR h u) (PW h u) 2 mcB ⟨#[h.v]++Array.replicate 12 undef,[]⟩ u:=by
 obtain⟨b1,b2,b3⟩:=P7 h u;have c1:=VA h _ (hh.below b3 (QhS _)) hs ht;simp only[Hp.v]at c1;simp only[mcB,Tryz.f8,Hp.v,Array.replicate_succ,Array.replicate_zero,List.push_toArray,List.append_toArray,List.nil_append,List.cons_append,chain];go_wp2;simp only[JQ,chain];generalize (u.alloc (QhT #[QhR h.oa h.os.length h.ocap,QhR h.ra h.rs.length h.rcap,QhR h.wa h.ws.length h.wcap,QhR h.da h.ds.length h.dcap] 27)).alloc (QhT #[QhR none 0 0,QhR none 0 0,QhR none 0 0,QhR none 0 0] 27)=u1 at *;obtain⟨x0,x1,x2,x3⟩:=Qb (show Blk u1 u.heap.size [QhR h.oa h.os.length h.ocap,QhR h.ra h.rs.length h.rcap,QhR h.wa h.ws.length h.wcap,QhR h.da h.ds.length h.dcap] _ from b1);go_wp2_with fail;refine c1.mono ?_;rintro e w1 ⟨rfl,hb⟩;have b1':=b1.below hb b1.lt;have b2':=b2.below hb b2.lt;have hB:=b3.trans (hb.mono b3.size);clear c1 hb x0 x1 x2 x3;obtain⟨r0,r1,r2,r3⟩:=Qb b2';obtain⟨f0,f1,f2,f3⟩:=Qo b2'
 cases hok:okP h.p with
 |true=>
  go_wp2;exact⟨rfl,hok,rfl,rfl,rfl,rfl,b1',b2',hB⟩
 |false=>
  obtain⟨kq,bq⟩:=QR b2' (.slice none 0 0) (.slice none 0 0) (.slice none 0 0) (.slice none 0 0)
  have hq:Below u.heap.size u ((((w1.setCell ⟨u.heap.size+1,0,none⟩ (.slice none 0 0)).setCell ⟨u.heap.size+1,1,none⟩ (.slice none 0 0)).setCell ⟨u.heap.size+1,2,none⟩ (.slice none 0 0)).setCell ⟨u.heap.size+1,3,none⟩ (.slice none 0 0)):=
   ⟨hB.os,hB.tape,hB.output,by simp[Qh1];exact hB.size,fun b hb=>by
     rw[Below.heap_setCell _ _ _ _ (show b≠u.heap.size+1 by omega),Below.heap_setCell _ _ _ _ (show b≠u.heap.size+1 by omega),Below.heap_setCell _ _ _ _ (show b≠u.heap.size+1 by omega),Below.heap_setCell _ _ _ _ (show b≠u.heap.size+1 by omega)]
     exact hB.block b hb⟩
  clear kq;go_wp2;exact⟨hok,rfl,rfl,rfl,rfl,bq,hq⟩
def Qb2 (h:Hp)(X:Nat→Bool)(w:World)(cs:List Frame)(g:Goroutine)(w1:World):Prop:=
 ∃(T:Array Value) (bx br:Nat),okP h.p=true∧T.size=13∧T[2]? =some (.pointer (some ⟨br,0,none⟩))∧g=G (Frame.enter Tryz.prog 33 #[h.v] .normal) (mcC T::cs)∧BI h X w.heap.size w bx br 0 X h w1
structure UG (h:Hp) (X0:Nat→Bool) (w0:World) (X:Nat→Bool) (y:Hp) (v:Value) (w:World):Prop where
 old:∀b,b<w0.heap.size→w.heap[b]? =w0.heap[b]? ∧X b=X0 b
 big:w0.heap.size≤w.heap.size
 sn:Sn X w
 oo:OO w w0
 res:∃(M:Nat) (ms:List Int),Q4 w M y∧Qa w w0.heap.size v ms∧w0.heap.size≤M∧(∀k,v.ownBlock=some k→k<M)∧(∀b,YA y b→X b=false)∧(∀b,v.ownBlock=some b→X b=false)∧
  (okP h.p=false→y.p=([],[],[],[])∧ms=[])∧(okP h.p=true→∀yy mm,CoP h.p yy mm→yy=y.p∧mm=ms)
theorem QfF (w:World)(B:Nat):Q4 w B Jt:=
 ⟨QhZ _ _ _ _,QN.nil w B,QhZ _ _ _ _,fun i hi=>by simp[Jt]at hi,QhZ _ _ _ _,QhZ _ _ _ _,fun a b ha=>by simp[Jt,QhW]at ha⟩
theorem QfG (b:Nat):¬YA Jt b:=by
 rintro(e|⟨i,hi,e⟩|e|e|e)
 ·simp[Jt,QhW]at e
 ·simp[Jt]at hi
 ·simp[Jt,QhW]at e
 ·simp[Jt,QhW]at e
 ·simp[Jt,QhW]at e
section
variable {h:Hp} {X:Nat→Bool} {Ch:Nat} {c:Frame} {cs:List Frame}
theorem Qeg {a:Act}{k:List Item}(hd:a.defers=[])(hk:∀i∈k,Z5 Tryz.progTables X i):FOk Tryz.progTables Cut.keep X ((base 8).at a k):=
 ⟨by kernel_rfl,hk,(fun d hq=>by
   have:d∈a.defers:=hq;rw[hd]at this
   simp at this),rfl,fun l hl=>by cases hl⟩
theorem Qfj {w:World}(hs:Sn X w)(hh:Qj (emW X w) h)(hsm:ZV h)(ht:∀i (hi:i<h.os.length),h.os[i].t.size≤maxLen):
 Qv Tryz.prog X Ch (fun g w1=>Qb2 h X w (c::cs) g w1∨(g=G (c.finish (.tuple #[Jt.v,.slice none 0 0])) cs∧UG h X w X Jt (.slice none 0 0) w1)) (G (Frame.enter Tryz.prog 8 #[h.v] .normal) (c::cs)) w:=by
 rw[enter_at _ Tryz.func8 (show Tryz.f8.body=some mcB from rfl)];have hxo:∀b,w.heap.size≤b→X b=false:=fun b hb=>hs.out hb
 have hok:FOk Tryz.progTables Cut.keep X ((base 8).at ⟨#[h.v]++Array.replicate (Tryz.f8.ntmps-(#[h.v]:Array Value).size) undef,[]⟩ [.code mcB]):=Qeg rfl (by
  intro i hi;simp only[List.mem_cons,List.not_mem_nil,or_false]at hi;subst hi
  exact(show QQ Tryz.progTables mcB=true by kernel_rfl))
 refine Kx 2 hs hok (R:=fun c a w2=>∃u:World,(u.heap=(emW X w).heap∧OO u w)∧McR h u c a w2) (Rr:=fun a w2=>∃u:World,(u.heap=(emW X w).heap∧OO u w)∧PW h u a w2) (fun t d=>?_) (fun c' a w2 w2' hE hS hK hFO hR=>?_) (fun a todo w2 w2' hE hS hK hFO hR=>?_)
 ·have h1:=Qfi h {emW X w with tape:=t,drawn:=d} (Vw hh t d) hsm ht;exact Vn h1 (fun c a _ hq=>⟨{emW X w with tape:=t,drawn:=d},⟨rfl,rfl,rfl⟩,hq⟩) (fun a _ hq=>⟨{emW X w with tape:=t,drawn:=d},⟨rfl,rfl,rfl⟩,hq⟩)
 ·obtain⟨u,⟨hu,huo⟩,rfl,hokp,r1,r2,r3,r4,r5,r6,r7⟩:=hR;obtain⟨T,D⟩:=a;simp only at r1 r2 r3 r4;subst r1;have us:u.heap.size=w.heap.size:=by rw[hu,QF]
  have hoo:OO w2 w:=OO.trans (OO.trans ⟨hE.os.symm,hE.out.symm⟩ ⟨r7.os,r7.output⟩) huo;have hbk:∀b,b<w.heap.size→w2.heap[b]? =w.heap[b]? :=fun b hb=>Uk hu hE hK (r7.block b (by omega));have hsz:=hK.size;have hu0:Qj u h:=Qj.heap hh (by rw[us,QF];exact QhS _) fun b hb=>by rw[hu]
  have hI:BI h X w.heap.size w u.heap.size (u.heap.size+1) 0 X h w2:=by
   refine⟨fun b hb=>⟨hbk b hb,rfl⟩,by omega,r5.same (JR hE (hxo _ (by omega))),r6.same (JR hE (hxo _ (by omega))),by omega,by omega,by omega,hxo _ (by omega),hxo _ (by omega),hS,Vu hE (hu0.below r7 (QhS _)),hu0.av (QhS _),hu0.av (by omega),⟨rfl,rfl,rfl,rfl⟩,hoo⟩
  generalize u.heap.size+1=br at r4 hI;generalize u.heap.size=bx at r3 hI;clear hok hE hS hK hFO r5 r6 r7 hbk hu0 hu huo us hoo;obtain⟨v0,v1,v2,v3,v4,v5,v6,v7,v8,v9,v10,v11,v12,rfl⟩:=Ui T r2;simp only[QhY,QhV,QhX,Option.some.injEq]at r3 r4;subst r3 r4;refine QL (n:=30) ?_;have e1:mcT=.seq (.region 3 VI false) .ret:=rfl;rw[e1];u_c stepG_seq BI.rely hI;simp only[VI,mcT,mcB,Tryz.f8];u_reg BI.rely hI;refine Goes.stop (fun w3 h3=>?_);replace hI:=BI.rely hI h3;clear h3;refine ZQ rfl (fun w4 h4=>?_);have hz:=ZW h4;replace hI:=BI.rely hI h4;clear h4;have hl:=hI.b1.lt;refine goes_oper_k rfl rfl (by decide) (fun K hK=>?_);obtain⟨c0,c1,c2,c3⟩:=Qb (show Blk w4 bx [QhR h.oa h.os.length h.ocap,QhR h.ra h.rs.length h.rcap,QhR h.wa h.ws.length h.wcap,QhR h.da h.ds.length h.dcap] _ from hI.b1);go_simp;refine hK _ _ ⟨⟨hz,fun B hB e he=>?_⟩,?_⟩
  ·have hm:=mem_listed he;simp[go_sem,c0,c1,c2,c3]at hm;rcases hm with rfl|rfl|rfl|rfl<;>exact⟨hI.x1,by show bx<B;omega⟩
  clear hK K hz c0 c1 c2 c3 hl;refine QL (n:=5) ?_;u_in BI.rely hI;refine goes_call rfl rfl (by decide) rfl Tryz.func33 rfl rfl ⟨by u_nil,?_⟩;rw[←enter_at _ Tryz.func33 rfl];simp only[List.map_toArray,List.map_cons,List.map_nil,Act.eval,Array.getD_eq_getD_getElem?,QhY,QhX,QhV,Option.getD_some];refine Goes.stop (fun w6 h6=>.stop (.inl ?_));replace hI:=BI.rely hI h6;exact⟨_,bx,br,hokp,rfl,rfl,rfl,hI⟩
 ·obtain⟨u,⟨hu,huo⟩,hokp,r1,r2,r3,r4,r5,r6⟩:=hR;obtain⟨T,D⟩:=a;simp only at r1 r2 r3 r4;subst r1;obtain⟨p0,p1,p2,p3,p4,p5,p6,p7,p8,p9,p10,p11,p12,rfl⟩:=Ui T r2;simp only[QhY,QhV,QhX,Option.some.injEq]at r3 r4;subst r3 r4;have hoo:OO w2 w:=OO.trans (OO.trans ⟨hE.os.symm,hE.out.symm⟩ ⟨r6.os,r6.output⟩) huo;have us:u.heap.size=w.heap.size:=by rw[hu,QF]
  have hbk:∀b,b<w.heap.size→w2.heap[b]? =w.heap[b]? :=fun b hb=>Uk hu hE hK (r6.block b (by omega));obtain⟨z0,z1,z2,z3⟩:=Qb r5;refine K9 (v:=.tuple #[Jt.v,.slice none 0 0]) hS hFO rfl rfl (fn:=Tryz.f8) Tryz.func8 hE ?_ (fun d=>.stop (.inr ⟨rfl,?_⟩))
  ·simp[results,Frame.at,Tryz.results8,go_sem,z0,z1,z2,z3,Hp.v,Jt]
  ·exact⟨fun b hb=>⟨hbk b hb,rfl⟩,hK.size,hS.at d,hoo,w.heap.size,[],QfF _ _,QhZ _ _ _ _,QhS _,fun k hk=>by simp[QhW]at hk,fun b hb=>absurd hb (QfG b),fun b hb=>by simp[QhW]at hb,fun _=>⟨rfl,rfl⟩,fun e=>by rw[hokp]at e;cases e⟩
end
section
variable {h:Hp} {X0:Nat→Bool} {N:Nat} {w0:World} {n:Nat} {X:Nat→Bool} {y:Hp} {w:World}
theorem JW.pp (R:JW h X0 N w0 n X y w):y.p=(h.tells (spS h n).1 (spS h n).2.1).p:=by
 obtain⟨e1,e2,e3,e4⟩:=R.eo;show(_,_,_,_)=(_,_,_,_);rw[e1,e2,e3,e4];rfl
theorem JW.okC (R:JW h X0 N w0 n X y w)(hf:HF h):OkC y:=OkC.of_p R.pp (spI hf.ok n).ok
theorem JW.fit (R:JW h X0 N w0 n X y w)(hf:HF h)(t:Tape)(d:Nat):Fit {emW X w with tape:=t,drawn:=d} y:=by
 obtain⟨e1,_⟩:=R.eo;refine⟨Vw R.hin t d,(R.okC hf).small,?_,?_⟩
 ·rw[e1];exact hf.txt
 ·rw[e1];exact hf.cap
theorem JW.exact (R:JW h X0 N w0 n X y w)(hf:HF h):∀yy mm,CoP h.p yy mm→yy=((pick y.os (reachP y.p)).map (QI (reachP y.p)),y.rs.map (wh (reachP y.p)),Qg y.ws (reachP y.p),Qg y.ds (reachP y.p))∧mm=whs (reachP y.p) y.os.length:=by
 intro yy mm hc;have hn:=(OM (R.okC hf)).1 R.nil;obtain⟨e1,e2,e3,e4⟩:=R.eo;have ep:=R.pp;rw[e3,ep]at hn;have:=Kz hf.ok hn hc;rw[e1,e2,e3,e4,ep];exact this
end
structure MQ (X0:Nat→Bool) (w0:World) (br:Nat) (X:Nat→Bool) (y:Hp) (w:World):Prop where
 old:∀b,b<w0.heap.size→w.heap[b]? =w0.heap[b]? ∧X b=X0 b
 big:w0.heap.size≤w.heap.size
 b2:Blk w br [.slice none 0 0,.slice none 0 0,.slice none 0 0,.slice none 0 0] 27
 n2:w0.heap.size≤br
 x2:X br=false
 sn:Sn X w
 hin:Qj (emW X w) y
 oo:OO w w0
theorem MQ.rely {X0:Nat→Bool}{w0:World}{br:Nat}{X:Nat→Bool}{y:Hp}{w w1:World}(I:MQ X0 w0 br X y w)(r:AtRel w w1):MQ X0 w0 br X y w1:=by
 obtain⟨d,rfl⟩:=r;exact⟨I.old,I.big,I.b2,I.n2,I.x2,I.sn.at d,Qj.heap I.hin (by rw[QF,QF];exact QhS _) (fun b _=>by rw[Za,Za];rfl),I.oo⟩
structure MJ (X0:Nat→Bool) (w0:World) (br:Nat) (X:Nat→Bool) (cl:List Value) (M:Nat) (y:Hp) (gv:Value) (ms:List Int) (w:World):Prop where
 old:∀b,b<w0.heap.size→w.heap[b]? =w0.heap[b]? ∧X b=X0 b
 big:w0.heap.size≤w.heap.size
 b2:Blk w br cl 27
 n2:w0.heap.size≤br
 x2:X br=false
 sn:Sn X w
 oo:OO w w0
 po:Q4 w M y
 lo:Qa w w0.heap.size gv ms
 le:w0.heap.size≤M
 gl:∀k,gv.ownBlock=some k→k<M
 xr:∀b,YA y b→X b=false
 xg:∀b,gv.ownBlock=some b→X b=false
theorem MJ.rely {X0:Nat→Bool}{w0:World}{br:Nat}{X:Nat→Bool}{cl:List Value}{M:Nat}{y:Hp}{gv:Value}{ms:List Int}{w w1:World}(I:MJ X0 w0 br X cl M y gv ms w)(r:AtRel w w1):MJ X0 w0 br X cl M y gv ms w1:=by
 obtain⟨d,rfl⟩:=r;exact⟨I.old,I.big,I.b2,I.n2,I.x2,I.sn.at d,I.oo,I.po.same fun _ _=>rfl,ZZ I.lo fun _ _=>rfl,I.le,I.gl,I.xr,I.xg⟩
theorem MJ.box {X0:Nat→Bool}{w0:World}{br:Nat}{X:Nat→Bool}{cl cl':List Value}{M:Nat}{y:Hp}{gv:Value}{ms:List Int}{w w1:World}(I:MJ X0 w0 br X cl M y gv ms w)(hb:Blk w1 br cl' 27)(hs:w1.heap.size=w.heap.size)(ho:∀b,b≠br→w1.heap[b]? =w.heap[b]?)(hoo:OO w1 w):MJ X0 w0 br X cl' M y gv ms w1:=by
 have n2:=I.n2;have nr:=I.po.not_box I.b2 (by decide) (by decide) (by decide);have ng:=Qs I.lo I.b2 (by decide);refine⟨fun b hb'=>⟨(ho b (by omega)).trans (I.old b hb').1,(I.old b hb').2⟩,by rw[hs];exact I.big,hb,n2,I.x2,?_,hoo.trans I.oo,I.po.same fun b hr=>ho b (fun e=>nr (e▸hr)),ZZ I.lo fun b hr=>ho b (fun e=>ng (e▸hr)),I.le,I.gl,I.xr,I.xg⟩;refine I.sn.turn (by omega) (fun r hr=>ho r fun e=>?_) fun r o hr ho'=>?_
 ·rw[e,I.x2]at hr;cases hr
 ·by_cases e:r=br
  ·subst e;unfold Blk at hb;rw[hb]at ho';exact .inr (.inl ⟨_,_,_,(Option.some.inj ho').symm⟩)
  ·rw[ho r e]at ho';exact .inl ho'
section
variable {h:Hp} {X0 X1:Nat→Bool} {w0:World} {br:Nat} {y:Hp} {Ch:Nat} {c:Frame} {cs:List Frame}
theorem Qfh {T:Array Value}(hT:T.size=13)(t2:T[2]? =some (.pointer (some ⟨br,0,none⟩))){w:World}(hokp:okP h.p=true)(hyp:okP y.p=true)(hfit:∀w,Qj (emW X1 w) y→∀t d,Fit {emW X1 w with tape:=t,drawn:=d} y)
 (hex:∀yy mm,CoP h.p yy mm→yy=((pick y.os (reachP y.p)).map (QI (reachP y.p)),y.rs.map (wh (reachP y.p)),Qg y.ws (reachP y.p),Qg y.ds (reachP y.p))∧mm=whs (reachP y.p) y.os.length)(hF:MQ X0 w0 br X1 y w):
 Qv Tryz.prog X1 Ch (fun g w'=>∃z v,g=G (c.finish (.tuple #[Hp.v z,v])) cs∧UG h X0 w0 X1 z v w') (G ((mcC T).finish y.v) (c::cs)) w:=by
 obtain⟨v0,v1,v2,v3,v4,v5,v6,v7,v8,v9,v10,v11,v12,rfl⟩:=Ui T hT;simp only[QhY,QhV,QhX,Option.some.injEq]at t2;subst t2;rw[mcC,Frame.finish_at];simp only[VI,mcT,mcB,Tryz.f8,QhY,QhX,QhV,Option.bind_some];refine QL (n:=10) ?_;walk_nrm;u_in MQ.rely hF;refine goes_call rfl rfl (by decide) rfl Tryz.func32 rfl rfl ⟨by u_nil,?_⟩;rw[←enter_at _ Tryz.func32 rfl];simp only[List.map_toArray,List.map_cons,List.map_nil,Act.eval,Array.getD_eq_getD_getElem?,QhY,QhX,QhV,Option.getD_some];refine Goes.stop (fun w6 h6=>?_);replace hF:=MQ.rely hF h6;clear h6;have hxo:∀b,w6.heap.size≤b→X1 b=false:=fun b hb=>hF.sn.out hb;have hfit6:=hfit w6 hF.hin;refine Ku (R:=fun v w1=>∃(z:Hp) (gv:Value) (M:Nat),v=.tuple #[z.v,gv]∧z.p=((pick y.os (reachP y.p)).map (QI (reachP y.p)),y.rs.map (wh (reachP y.p)),Qg y.ws (reachP y.p),Qg y.ds (reachP y.p))∧Q4 w1 M z∧Qa w1 w6.heap.size gv (whs (reachP y.p) y.os.length)∧(∀k,gv.ownBlock=some k→k<M)∧w6.heap.size≤M) (by kernel_rfl) hF.sn (fun t d=>?_) (fun v w7 w7' hE hS7 ho hz hoo hR=>?_)
 ·refine(Qfw y _ (hfit6 t d) hyp).mono ?_;rintro e w1 ⟨z,gv,M,rfl,h1,h2,h3,h4,h5,h6⟩;rw[show({emW X1 w6 with tape:=t,drawn:=d}:World).heap.size=w6.heap.size from QF X1 w6]at h3 h5 h6;exact⟨_,rfl,⟨z,gv,M,rfl,h1,h2,h3,h4,h5⟩,h6⟩
 obtain⟨z,gv,M,rfl,e1,o1,o2,o3,o4⟩:=hR;have hxr:∀b,YA z b→X1 b=false:=fun b hb=>hxo b (by have:=(o1.rows_lt b hb).1;omega);have hxg:∀b,gv.ownBlock=some b→X1 b=false:=fun b hb=>hxo b ((o2.lt b hb).1);have hbig:=hF.big
 have hJ:MJ X0 w0 br X1 [.slice none 0 0,.slice none 0 0,.slice none 0 0,.slice none 0 0] M z gv (whs (reachP y.p) y.os.length) w7:=by
  refine⟨fun b hb=>⟨(ho b (by omega)).trans (hF.old b hb).1,(hF.old b hb).2⟩,by omega,hF.b2.same (ho _ hF.b2.lt),hF.n2,hF.x2,hS7,hoo.trans hF.oo,o1.same fun b hr=>JR hE (hxr b hr),?_,by omega,o3,hxr,hxg⟩;exact Ys (ZZ o2 fun b hr=>JR hE (hxg b hr)) hbig
 clear hF hE hS7 ho hz hoo o1 o2 o3 o4 hxr hxg hxo hfit6 hfit hbig
 have hans:∀yy mm,CoP h.p yy mm→yy=z.p∧mm=whs (reachP y.p) y.os.length:=fun yy mm hc=>by
  rw[e1];exact hex yy mm hc
 clear e1 hex;generalize whs (reachP y.p) y.os.length=ms at hJ hans;obtain⟨zoa,zoc,zos,zra,zrc,zrs,zwa,zwc,zws,zda,zdc,zds⟩:=z;rw[Frame.finish_at];simp only[QhY,QhX,QhV,Option.bind_some];refine QL (n:=10) ?_;walk_nrm;u_op MJ.rely hJ;u_op MJ.rely hJ;refine Goes.stop (fun w8 h8=>?_);replace hJ:=MJ.rely hJ h8;clear h8;refine ZQ rfl (fun w9 h9=>?_);have hz:=ZW h9;replace hJ:=MJ.rely hJ h9;clear h9;have hl:=hJ.b2.lt;obtain⟨c0,c1,c2,c3⟩:=Qb hJ.b2;obtain⟨f0,f1,f2,f3⟩:=Qo hJ.b2;obtain⟨kq,bq⟩:=QR hJ.b2 (.slice zoa zos.length zoc) (.slice zra zrs.length zrc) (.slice zwa zws.length zwc) (.slice zda zds.length zdc);clear kq;refine goes_oper_k rfl rfl (by decide) (fun K hK=>?_);simp only[Hp.v];go_simp;refine hK _ _ ⟨⟨by simp[Qh1];omega,fun B hB e he=>?_⟩,?_⟩
 ·have hm:=mem_listed he;have hB':w9.heap.size≤B:=by simpa[Qh1]using hB
  simp[go_sem,Hp.v,c0,c1,c2,c3,f0,f1,f2,f3]at hm;rcases hm with rfl|rfl|rfl|rfl<;>exact⟨hJ.x2,by show br<B;omega⟩
 clear hK K hz;replace hJ:=hJ.box bq (by simp[Qh1]) (fun b hb=>by rw[Below.heap_setCell _ _ _ _ hb,Below.heap_setCell _ _ _ _ hb,Below.heap_setCell _ _ _ _ hb,Below.heap_setCell _ _ _ _ hb]) ⟨rfl,rfl⟩;generalize (((w9.setCell ⟨br,0,none⟩ (.slice zoa zos.length zoc)).setCell ⟨br,1,none⟩ (.slice zra zrs.length zrc)).setCell ⟨br,2,none⟩ (.slice zwa zws.length zwc)).setCell ⟨br,3,none⟩ (.slice zda zds.length zdc)=w10 at *;clear c0 c1 c2 c3 f0 f1 f2 f3 bq hl w9;refine QL (n:=10) ?_
 try walk_nrm
 u_op MJ.rely hJ;u_c stepG_region_end MJ.rely hJ;u_c stepG_ret' MJ.rely hJ;refine Goes.stop (fun w11 h11=>?_);replace hJ:=MJ.rely hJ h11;clear h11;have hEm:=Vv X1 w11 w11.tape w11.drawn;have hb2:Blk {emW X1 w11 with tape:=w11.tape,drawn:=w11.drawn} br [.slice zoa zos.length zoc,.slice zra zrs.length zrc,.slice zwa zws.length zwc,.slice zda zds.length zdc] 27:=KO hJ.b2 hJ.x2 w11.tape w11.drawn;generalize ({emW X1 w11 with tape:=w11.tape,drawn:=w11.drawn}:World)=E at hEm hb2;obtain⟨z0,z1,z2,z3⟩:=Qb hb2;refine K9 (v:=.tuple #[(⟨zoa,zoc,zos,zra,zrc,zrs,zwa,zwc,zws,zda,zdc,zds⟩:Hp).v,gv]) hJ.sn ?_ rfl rfl (fn:=Tryz.f8) Tryz.func8 hEm ?_ (fun d=>.stop ⟨_,_,rfl,?_⟩)
 ·refine⟨by kernel_rfl,fun i hi=>?_,(fun d hq=>by simp[Frame.at]at hq),rfl,fun l hl=>by cases hl⟩;simp only[Frame.at,List.mem_cons,List.not_mem_nil,or_false]at hi;subst hi;exact(show QQ Tryz.progTables .ret=true by kernel_rfl)
 ·simp[results,Frame.at,Tryz.results8,go_sem,z0,z1,z2,z3,Hp.v]
 ·have hJ2:=MJ.rely hJ ⟨d,rfl⟩;exact⟨hJ2.old,hJ2.big,hJ2.sn,hJ2.oo,M,ms,hJ2.po,hJ2.lo,hJ2.le,hJ2.gl,hJ2.xr,hJ2.xg,(fun e=>by rw[hokp]at e;cases e),fun _=>hans⟩
theorem Qfl (hsm:ZV h)(ht:∀i (hi:i<h.os.length),h.os[i].t.size≤maxLen)(hcap:∀(i:Nat) (hi:i<h.os.length),h.os[i].r.length≤h.os[i].rcap){X:Nat→Bool}{SB:Nat→Prop}{gs:Array Goroutine}{w:World}{t:Trace}(hB:Bt X SB gs w t)(hs:Sn X w)(hh:Qj (emW X w) h)
 (h0:gs[0]? =some (G (Frame.enter Tryz.prog 8 #[h.v] .normal) (c::cs)))(sl:Option (Nat×Nat)):
 ∃K gs' w' sl' t' X' SB' y v,runNT Tryz.prog K (crowd gs w sl) t=(.next (crowd gs' w' sl'),t')∧gs'[0]? =some (G (c.finish (.tuple #[Hp.v y,v])) cs)∧Bt X' SB' gs' w' t'∧UG h X w X' y v w':=by
 obtain⟨n1,gs1,a1,w1,sl1,t1,hr1,hsz1,h01,hor,hB1⟩:=J3 hB h0 (Qfj (Ch:=0) (c:=c) (cs:=cs) hs hh hsm ht) sl;rcases hor with⟨T,bx,br,hokp,hT,t2,rfl,hI⟩|⟨rfl,ho⟩
 ·have hf:HF h:=⟨YZ hokp,ht,hcap⟩;obtain⟨n2,gs2,w2,sl2,t2',X2,SB2,m,y,hr2,h02,hB2,hR⟩:=Qct hf hB1 hI.sn hI.hin h01 sl1;have hlb:=hI.b2.lt;have hbig:=hI.big
  have hQ:MQ X w br X2 y w2:=by
   refine⟨fun b hb=>⟨((hR.old b (by omega)).1).trans (hI.old b hb).1,((hR.old b (by omega)).2).trans (hI.old b hb).2⟩,Nat.le_trans hbig hR.big,hI.b2.same (hR.old br hlb).1,hI.n2,((hR.old br hlb).2).trans hI.x2,hR.sn,hR.hin,hR.oo.trans hI.oo⟩
  have hy:=hR.okC hf;obtain⟨e1,_⟩:=hR.eo;obtain⟨n3,gs3,a3,w3,sl3,t3,hr3,hsz3,h03,⟨z,v,rfl,ho⟩,hB3⟩:=J3 hB2 h02 (Qfh (Ch:=0) (c:=c) (cs:=cs) hT t2 hokp (Yo hy) (fun w hin t d=>⟨Vw hin t d,hy.small,by rw[e1];exact hf.txt,by rw[e1];exact hf.cap⟩) (hR.exact hf) hQ) sl2;refine⟨n1+(n2+n3),gs3,w3,sl3,t3,X2,SB2,z,v,?_,h03,hB3,ho⟩;rw[runNT_add,hr1];simp only;rw[runNT_add,hr2];exact hr3
 ·exact⟨n1,gs1,w1,sl1,t1,X,SB,Jt,_,hr1,h01,hB1,ho⟩
end
end Co
end Go.Proofs.YtcpnkpogebjieaaGreat
