/- slices.Delete of one that is watched, in place. -/
import Derived.Test.YtcpnkpogebjieaaGreatS38Va
import Derived.Deep.CutRange
import Derived.Deep.RegionHeld3
import Derived.Test.YtcpnkpogebjieaaGreatS15Ss2
import Derived.Test.YtcpnkpogebjieaaGreatS17Ca
import Derived.Test.YtcpnkpogebjieaaGreatS28Lo
import Derived.Test.YtcpnkpogebjieaaGreatS26Da
open Go.Value renaming slice→QhR,int→QhU,pointer→Qh1
open Nat renaming le_refl→QhS,le_trans→QhY
open Go.Obj renaming cells→QhT
open List renaming length_cons→QhV,length_nil→QhW,getElem?_eq_getElem→QhX,length_append→QhZ,getElem?_cons_zero→Qh0,take_append_of_le_length→Qh2,take_of_length_le→Qh3
set_option maxHeartbeats 4000000
set_option maxRecDepth 100000
namespace Go.Proofs.YtcpnkpogebjieaaGreat
section
open Go.RowKit
theorem Qec (ws:List (Int×Int))(k:Nat):(ws.flatMap wc).take (k*2)=(ws.take k).flatMap wc:=by
 induction ws generalizing k with
 |nil=>simp
 |cons p ws ih=>
  cases k with
  |zero=>simp
  |succ k=>
   have e:(k+1)*2=k*2+1+1:=by omega
   rw[e];simp[wc,ih]
theorem Qeb (ws:List (Int×Int))(k:Nat):(ws.flatMap wc).drop (k*2)=(ws.drop k).flatMap wc:=by
 induction ws generalizing k with
 |nil=>simp
 |cons p ws ih=>
  cases k with
  |zero=>simp
  |succ k=>
   have e:(k+1)*2=k*2+1+1:=by omega
   rw[e];simp[wc,ih]
theorem QdH (base:Nat)(v:Value)(ws:List (Int×Int))(i:Nat)(w:World)(hw:Qe w base v ws)(hi:i<ws.length)(hwl:ws.length≤1048576):
 Calls Cut.prog 116 #[v,.int .i64 i,.int .i64 ((i:Int)+1)] w fun e w'=>∃v',e=.returned v'∧Qe w' base v' (ws.eraseIdx i)∧w.grownBy w' v.ownBlock∧v'.ownBlock=v.ownBlock:=by
 obtain⟨i0,hi0,hz0,hz1,hz2⟩:=info_parts Jr;obtain⟨hxl,h0|⟨g,cap,cur,rfl,hbg,hg,hnc,hcm,hcs,htake⟩⟩:=hw
 ·omega
 have hzv:∀w,(zeroValue 40).run Cut.prog w=.ok (.agg #[.int .i64 0,.int .i64 0]) w:=fun w=>by
  simp[zeroValue,typeInfo,hi0,hz0]
 have hB:Blk w g cur.toList 40:=by unfold Blk;simpa using hg
 have hcl:cur.toList.length=cap*2:=by simpa using hcs
 obtain⟨news,hnews⟩:∃news,news=(ws.drop (i+1)).flatMap wc:=⟨_,rfl⟩;have hlen:news.length=(ws.length-(i+1))*2:=by rw[hnews,JY wc 2 (fun _=>rfl)];simp
 have hnc':(cur.toList.drop ((i+1)*2)).take ((ws.length-(i+1))*2)=news:=by
  rw[hnews,←Qeb,←htake,List.drop_take,show ws.length*2-(i+1)*2=(ws.length-(i+1))*2 by omega]
 have hget:∀t,t<news.length→news[t]? =cur.toList[(i+1)*2+t]? :=fun t ht=>by
  rw[←hnc',List.getElem?_take_of_lt (by omega),List.getElem?_drop]
 obtain⟨A,hA,hsrc⟩:∃A:Addr,(if cap=i+1 then some (⟨g,0,none⟩:Addr)else some ⟨g,(i+1)*2,none⟩)=some A∧Hid (∀t u,news[t]? =some u→w.drew.cell? (A.add t)=some u):=by
  by_cases h:cap=i+1
  ·refine⟨⟨g,0,none⟩,by simp[h],fun t u hu=>?_⟩;have h0:news.length=0:=by rw[hlen];omega
   rw[List.length_eq_zero_iff.1 h0]at hu;simp at hu
  ·refine⟨⟨g,(i+1)*2,none⟩,by simp[h],fun t u hu=>?_⟩;have ht:t<news.length:=(List.getElem?_eq_some_iff.1 hu).1;rw[hget t ht]at hu;rw[Addr.add_lit];exact(hB.cell _).trans hu
 have s1:Hid (news.length=(ws.length-(i+1))*2):=hlen;have s2:Hid (∀u∈news,u.oneCell'=true):=by rw[hnews];exact JU _
 have s3:Hid (∀t,t<news.length→(w.drew.cell? ⟨g,0+i*2+t,none⟩).isSome=true∧w.drew.frozen? ⟨g,0+i*2+t,none⟩=false):=fun t ht=>by
  refine⟨?_,hB.free _⟩;show(w.cell? _).isSome=true;rw[hB.cell,QhX (by omega)];rfl
 obtain⟨W1,hW1⟩:∃W1,W1=w.drew.setCells g (0+i*2) news:=⟨_,rfl⟩;have hBd:Blk w.drew g cur.toList 40:=hB;have hB1:Blk W1 g (cur.toList.take (0+i*2)++news++cur.toList.drop (0+i*2+news.length)) 40:=by rw[hW1];exact Blk.puts news _ _ _ hBd (by omega)
 have hl1:(cur.toList.take (0+i*2)++news++cur.toList.drop (0+i*2+news.length)).length=cap*2:=by simp;omega
 have hclr:∀ty,(Builtin.clear_ #[25] ty #[.slice (some ⟨g,(i+(ws.length-(i+1)))*2,none⟩) (ws.length-(i+(ws.length-(i+1)))) (cap-(i+(ws.length-(i+1))))]).run Cut.prog W1=.ok (.tuple #[]) (W1.setCells g ((i+(ws.length-(i+1)))*2) [.int .i64 0,.int .i64 0]):=fun ty=>by
  have e1:ws.length-(i+(ws.length-(i+1)))=1:=by omega
  rw[e1];exact Qgm W1 _ _ ty _ _ _ ((Cut.under_eq 25).trans Tryz.underlying25) hzv rfl rfl rfl g _ _ (fun j hj=>by rw[hB1.cell,QhX (by rw[hl1];omega)];rfl) (fun j hj=>hB1.free _)
 have hgr:w.grownBy W1 (some g):=by
  rw[hW1];exact Z4 (Jd ((Below.refl _ _).drew) (QhS _) _) (Pw g news _ _)
 have HW:Hid (W1=w.drew.setCells g (0+i*2) news):=hW1
 have HE:Hid (Qe (W1.setCells g ((i+(ws.length-(i+1)))*2) [.int .i64 0,.int .i64 0]) base (.slice (some ⟨g,0,none⟩) (i+(ws.length-(i+1))) cap) (ws.eraseIdx i)∧w.grownBy (W1.setCells g ((i+(ws.length-(i+1)))*2) [.int .i64 0,.int .i64 0]) (some g)):=by
  have h2:=Blk.puts [.int .i64 0,.int .i64 0] ((i+(ws.length-(i+1)))*2) _ _ hB1 (by rw[hl1];simp;omega);have el:(ws.eraseIdx i).length=i+(ws.length-(i+1)):=by rw[List.length_eraseIdx,if_pos hi];omega
  have ee:ws.eraseIdx i=ws.take i++ws.drop (i+1):=List.eraseIdx_eq_take_drop_succ ws i;refine⟨⟨JY wc 2 (fun _=>rfl) _,.inr ⟨g,cap,_,by rw[el],hbg,h2,by omega,hcm,?_,?_⟩⟩,Z4 hgr (Pw g _ _ _)⟩
  ·simp;omega
  ·have hk:(cur.toList.take (0+i*2)++news).length=(i+(ws.length-(i+1)))*2:=by simp;omega
   rw[el,ee,List.flatMap_append,←hnews,←Qec,←htake];rw[List.append_assoc (List.take _ _),Qh2 (by rw[List.length_take,hl1];omega),List.take_take,Nat.min_self];rw[Qh2 (by omega),Qh3 (by omega),List.take_take,Nat.min_eq_left (by omega),Nat.zero_add]
 have hic:i≤cap:=by omega
 have hjc:i+1≤cap:=by omega
 have hwr:IntKind.i64.wrap ((i:Int)+1)=(i:Int)+1:=by rw[IntKind.wrap_i64];omega
 have hp0:(0:Int)≤(i:Int)+1:=by omega
 have hp1:(i:Int)+1≤(ws.length:Int):=by omega
 have hp2:((i:Int)+1).toNat=i+1:=by omega
 have hp3:((i:Int)==(i:Int)+1)=false:=by simp;omega
 clear hW1 hB1 hB hBd hget hnews hlen hnc' hl1 hgr hg htake hcl hxl hcs;go_enter (Cut.func_of Tryz.func116 rfl),Tryz.ntmps116;go_wp2_with fail;go_region_law (refine step_append_room rfl (.tmp 22) (.tmp 25) 25 rfl 40 i0 2 ((Cut.under_eq 25).trans Tryz.underlying25) hi0 hz1 g 0 i cap (by simp[Act.eval,Act.put]) A (ws.length-(i+1)) (cap-(i+1)) news (by simp[Act.eval,Act.put]) s1.out hsrc.out s2.out (by omega) s3.out ?_;rw[←HW.out]);go_wp2;go_ret;exact⟨_,rfl,HE.out.1,HE.out.2,rfl⟩
end
section
open Go.RowKit Go.Shelf
attribute [local go_sem] Oper.semAt_some
theorem VU {w w':World}{base e size n:Nat}{v:Value}{xs:List Value}(h:w.ownsRow base e size v n xs)(hs:∀k,v.ownBlock=some k→w'.heap[k]? =w.heap[k]?):w'.ownsRow base e size v n xs:=by
 refine⟨h.1,?_⟩;rcases h.2 with h1|⟨g,cap,cur,h1,hg,hh,r⟩
 ·exact Or.inl h1
 ·refine Or.inr ⟨g,cap,cur,h1,hg,?_,r⟩;rw[hs g (by rw[h1];rfl)];exact hh
def np (Q:Exit→Act→World→Prop):Exit→Act→World→Prop
 | .panic _,_,_=>False
 |e,a,w=>Q e a w
theorem QbV {P:Program}{c:Code}{Q:Exit→Act→World→Prop}{a:Act}{w:World}(h:c.wp P (np Q) a w):c.wp P Q a w:=
 wp_mono h fun e a w hq=>by cases e<;>first|exact hq|exact hq.elim
def QZ (ws:List (Int×Int))(pre:List (Int×Int)):List (Int×Int):=pre.foldl (fun l x=>l.eraseIdx x.2.toNat) ws
theorem OB (ws pre:List (Int×Int))(x:Int×Int):QZ ws (pre++ [x])=(QZ ws pre).eraseIdx x.2.toNat:=by simp[QZ]
def Q9 (ws:List (Int×Int))(zs:List Int):List (Int×Int):=zs.map fun z=>ws.getD z.toNat (0,0)
structure TO (w:World) (h:Hp) (W:World):Prop where
 bh:Blk W w.heap.size [QhR h.oa h.os.length h.ocap,QhR h.ra h.rs.length h.rcap,QhR h.wa h.ws.length h.wcap,QhR h.da h.ds.length h.dcap] 27
 br:Blk W (w.heap.size+1) [QhR none 0 0,QhR none 0 0,QhR none 0 0,QhR none 0 0] 27
 be:Below w.heap.size w W
theorem TO.step {w:World}{h:Hp}{W W':World}(t:TO w h W)(hb:Below W.heap.size W W'):TO w h W':=⟨t.bh.step hb,t.br.step hb,t.be.trans (hb.mono t.be.size)⟩
theorem TO.gb {w:World}{h:Hp}{W W':World}{r:Option Nat}(t:TO w h W)(hg:W.grownBy W' r)(hr:∀k,r=some k→w.heap.size+1<k):TO w h W':=
 ⟨t.bh.grown hg (fun e=>by have:=hr _ e;omega),t.br.grown hg (fun e=>by have:=hr _ e;omega),t.be.trans (QJ hg t.be.size (fun k e=>by have:=hr k e;omega))⟩
theorem TO.sz {w:World}{h:Hp}{W:World}(t:TO w h W):w.heap.size+1<W.heap.size:=t.br.lt
theorem QeH {W:World}{b B:Nat}{u c0 c1 c2 c3:Value}(hn:¬b=B)(h0:W.cell? ⟨b,0,none⟩=some c0)(h1:W.cell? ⟨b,1,none⟩=some c1)(h2:W.cell? ⟨b,2,none⟩=some c2)(h3:W.cell? ⟨b,3,none⟩=some c3):
 (W.setCell ⟨B,0,none⟩ u).cell? ⟨b,0,none⟩=some c0∧(W.setCell ⟨B,0,none⟩ u).cell? ⟨b,1,none⟩=some c1∧(W.setCell ⟨B,0,none⟩ u).cell? ⟨b,2,none⟩=some c2∧(W.setCell ⟨B,0,none⟩ u).cell? ⟨b,3,none⟩=some c3:=by
 have e:∀o,(W.setCell ⟨B,0,none⟩ u).cell? ⟨b,o,none⟩=W.cell? ⟨b,o,none⟩:=fun o=>World.cell?_of_block (Below.heap_setCell _ _ _ _ hn);exact⟨(e 0).trans h0,(e 1).trans h1,(e 2).trans h2,(e 3).trans h3⟩
theorem QeI {W:World}{b:Nat}{o:Obj}{c0 c1 c2 c3:Value}(h0:W.cell? ⟨b,0,none⟩=some c0)(h1:W.cell? ⟨b,1,none⟩=some c1)(h2:W.cell? ⟨b,2,none⟩=some c2)(h3:W.cell? ⟨b,3,none⟩=some c3):
 (W.alloc o).cell? ⟨b,0,none⟩=some c0∧(W.alloc o).cell? ⟨b,1,none⟩=some c1∧(W.alloc o).cell? ⟨b,2,none⟩=some c2∧(W.alloc o).cell? ⟨b,3,none⟩=some c3:=
 ⟨Lib.cell?_alloc_some o h0,Lib.cell?_alloc_some o h1,Lib.cell?_alloc_some o h2,Lib.cell?_alloc_some o h3⟩
structure TC (w:World) (h:Hp) (W:World) (B N:Nat) (v1 v2:Value) (ws rs:List (Int×Int)):Prop where
 tt:TO w h W
 bw:Blk W B [v1] 25
 ow:Qe W (w.heap.size+1+1) v1 ws
 od:Qe W N v2 rs
 lo:∀k,v1.ownBlock=some k→k<N
 hN:w.heap.size+1+1≤N
 hB:w.heap.size+1+1≤B
 sz:N≤W.heap.size
theorem TC.step {w:World}{h:Hp}{W W':World}{B N:Nat}{v1 v2:Value}{ws rs:List (Int×Int)}(t:TC w h W B N v1 v2 ws rs)(hb:Below W.heap.size W W'):TC w h W' B N v1 v2 ws rs:=
 ⟨t.tt.step hb,t.bw.step hb,Qe.below t.ow hb (QhS _),Qe.below t.od hb (QhS _),t.lo,t.hN,t.hB,QhY t.sz hb.size⟩
theorem TC.grow {w:World}{h:Hp}{W W':World}{B N:Nat}{v1 v2 v3:Value}{ws rs rs':List (Int×Int)}(t:TC w h W B N v1 v2 ws rs)(hg:W.grownBy W' v2.ownBlock)(ho:Qe W' N v3 rs'):TC w h W' B N v1 v3 ws rs':=by
 have hN:=t.hN;refine⟨t.tt.gb hg (fun k e=>by have:=(t.od.lt k e).1;omega),t.bw.grown hg (Qs t.od t.bw (by decide)),World.ownsRow.kept t.ow hg ?_,ho,t.lo,t.hN,t.hB,QhY t.sz hg.size⟩
 cases q:v1.ownBlock with
 |none=>exact .inl rfl
 |some k=>
  refine .inr fun e=>?_;have:=t.lo k q;have:=(t.od.lt k e.symm).1;omega
theorem TC.same {w:World}{h:Hp}{W W':World}{B N N2:Nat}{v1 v2:Value}{ws rs:List (Int×Int)}(t:TC w h W B N v1 v2 ws rs)(hs:∀k,k<N2→W'.heap[k]? =W.heap[k]?)(hB:B<N2)(hv:∀k,v1.ownBlock=some k→k<N2)(hd:∀k,v2.ownBlock=some k→k<N2)(h2:w.heap.size+1<N2)(hbe:Below w.heap.size w W')(hsz:W.heap.size≤W'.heap.size):TC w h W' B N v1 v2 ws rs:=
 ⟨⟨t.tt.bh.same (hs _ (by omega)),t.tt.br.same (hs _ h2),hbe⟩,t.bw.same (hs _ hB),VU t.ow (fun k e=>hs k (hv k e)),VU t.od (fun k e=>hs k (hd k e)),t.lo,t.hN,t.hB,QhY t.sz hsz⟩
def HoT (w:World)(h:Hp)(B N N2:Nat)(dv:Value)(rs:List (Int×Int))(M:Nat→Prop)(pre:List (Int×Int))(W:World):Prop:=
 (∀k,M k→N2≤k∧k<W.heap.size)∧N2≤W.heap.size∧∃v,TC w h W B N v dv (QZ h.ws pre) rs∧∀k,v.ownBlock=some k→k<N2
section
variable {w:World} {h:Hp} {B N N2:Nat} {dv:Value} {rs:List (Int×Int)} (hB:B<N2) (hd:∀k,dv.ownBlock=some k→k<N2) (h2:w.heap.size+1<N2)
include hB hd h2
theorem HoT.chg (M:Nat→Prop)(pre:List (Int×Int))(A C:World)(H:HoT w h B N N2 dv rs M pre A)(hc:Chg M A C):HoT w h B N N2 dv rs (Z9 M A C) pre C:=by
 obtain⟨hM,hs,v,t,hv⟩:=H;have hcs:=hc.size;refine⟨fun k hk=>?_,QhY hs hc.size,v,t.same (fun k hk=>hc.block k (by omega) (fun q=>by have:=(hM k q).1;omega)) hB hv hd h2 ?_ hc.size,hv⟩
 ·rcases hk with hk|hk
  ·have:=hM k hk;omega
  ·omega
 ·exact t.tt.be.trans ⟨hc.os,hc.tape,hc.output,hc.size,fun k hk=>hc.block k (by have:=t.tt.be.size;omega) (fun q=>by have:=(hM k q).1;omega)⟩
theorem HoT.put {s:Nat}(hs2:N2≤s)(M:Nat→Prop)(pre:List (Int×Int))(A:World)(k:Nat)(o o':Obj)(H:HoT w h B N N2 dv rs M pre A)(hk:s≤k)(_hl:A.heap[k]? =some o)(_hn:o.isCells=false):HoT w h B N N2 dv rs M pre (A.putObj k o'):=by
 obtain⟨hM,hs,v,t,hv⟩:=H;have hg:=grownBy_putObj' A k o';refine⟨fun x hx=>by simpa using hM x hx,by simpa using hs,v,t.same (fun x hx=>World.putObj_heap_other (by omega)) hB hv hd h2 (t.tt.be.trans (QJ hg t.tt.be.size (fun x e=>by cases e;omega))) (by simp),hv⟩
omit hB hd h2 in
theorem HoT.al (M:Nat→Prop)(pre:List (Int×Int))(A:World)(o:Obj)(H:HoT w h B N N2 dv rs M pre A):HoT w h B N N2 dv rs M pre (A.alloc o):=by
 obtain⟨hM,hs,v,t,hv⟩:=H;exact⟨fun x hx=>by have:=hM x hx;simp;omega,by simp;omega,v,t.step (QC _ _),hv⟩
end
theorem OC {ws:List (Int×Int)}{zs:List Int}(hasc:∀j (hj:j<zs.length),0≤zs[j]∧zs[j].toNat+(zs.length-(j+1))<ws.length):∀i,i≤zs.length→(QZ ws ((bwd zs).take i)).length=ws.length-i:=by
 intro i
 induction i with
 |zero=>intro _;simp[QZ]
 |succ i ih=>
  intro hi;have hj:zs.length-(i+1)<zs.length:=by omega
  have h1:=Vl zs (zs.length-(i+1)) hj;have e1:zs.length-(zs.length-(i+1)+1)=i:=by omega
  have e2:zs.length-(zs.length-(i+1))=i+1:=by omega
  rw[e1,e2]at h1;have h2:=hasc _ hj;rw[e1]at h2;rw[←h1,OB,List.length_eraseIdx,ih (by omega),if_pos (by omega)];omega
theorem Qf2 {ws:List (Int×Int)}{zs:List Int}(hasc:∀j (hj:j<zs.length),0≤zs[j]∧zs[j].toNat+(zs.length-(j+1))<ws.length){pre:List (Int×Int)}{x:Int×Int}(hp:pre++ [x]<+:bwd zs):0≤x.2∧x.2.toNat<(QZ ws pre).length:=by
 have hl:=hp.length_le;rw[Ks]at hl;simp only[QhZ,QhV,QhW]at hl;have e:=List.prefix_iff_eq_take.1 hp;simp only[QhZ,QhV,QhW,Nat.zero_add]at e;have hj:zs.length-(pre.length+1)<zs.length:=by omega
 have h1:=Vl zs _ hj;have e1:zs.length-(zs.length-(pre.length+1)+1)=pre.length:=by omega
 have e2:zs.length-(zs.length-(pre.length+1))=pre.length+1:=by omega
 rw[e1,e2,←e]at h1;obtain⟨h3,h4⟩:=List.append_inj' h1 rfl;simp only[List.cons.injEq,and_true]at h4;have h5:=hasc _ hj;rw[e1]at h5;subst h4;have h6:=OC hasc pre.length (by omega);rw[h3]at h6;refine⟨h5.1,?_⟩;dsimp only;omega
theorem VT {W:World}{base e size n:Nat}{v:Value}{xs:List Value}(h:W.ownsRow base e size v n xs){j:Nat}{o:Obj}(q:v.ownBlock=some j)(hj:W.heap[j]? =some o):o.isCells=true:=by
 rcases h.2 with⟨h3,_⟩|⟨g,cap,cur,h3,_,hh,_⟩
 ·rw[h3]at q;simp[Value.ownBlock]at q
 ·rw[h3]at q;simp[Value.ownBlock]at q;subst q;rw[hh]at hj
  cases hj
  rfl
theorem TC.del {w:World}{h:Hp}{W W':World}{B N:Nat}{v v' dv:Value}{ws ws' rs:List (Int×Int)}(t:TC w h W B N v dv ws rs)(hg:W.grownBy W' v.ownBlock)(ho:Qe W' (w.heap.size+1+1) v' ws')(hv:v'.ownBlock=v.ownBlock):TC w h (W'.setCell ⟨B,0,none⟩ v') B N v' dv ws' rs∧Blk W' B [v] 25:=by
 have hB:=t.hB;have t1:TO w h W':=t.tt.gb hg (fun k e=>by have:=(t.ow.lt k e).1;omega);have b1:=t.bw.grown hg (Qs t.ow t.bw (by decide))
 have od1:Qe W' N dv rs:=by
  refine World.ownsRow.kept t.od hg ?_
  cases q:dv.ownBlock with
  |none=>exact .inl rfl
  |some k=>
   refine .inr fun e=>?_;have:=t.lo k e.symm;have:=(t.od.lt k q).1;omega
 refine⟨⟨t1.gb (Q1 W' B 0 v') (fun k e=>by cases e;omega),b1.store 0 v',ownsRow_setCell_other ho (Qs ho b1 (by decide)) _,ownsRow_setCell_other od1 (Qs od1 b1 (by decide)) _,fun k e=>t.lo k (hv▸e),t.hN,t.hB,?_⟩,b1⟩;simp[World.setCell];exact QhY t.sz hg.size
theorem TC.a {w:World}{h:Hp}{W:World}{N:Nat}{v1 v2:Value}(t:TO w h W)(o1:Qe W (w.heap.size+1+1) v1 h.ws)(o2:Qe W N v2 h.ds)(lo:∀k,v1.ownBlock=some k→k<N)(hN:w.heap.size+1+1≤N)(hs:N≤W.heap.size):TC w h (W.alloc (QhT #[v1] 25)) W.heap.size N v1 v2 h.ws h.ds:=
 ⟨t.step (QC _ _),Blk.new W [v1] _,Qe.below o1 (QC _ _) (QhS _),Qe.below o2 (QC _ _) (QhS _),lo,hN,t.sz,QhY hs (QC _ _).size⟩
theorem TC.b {w:World}{h:Hp}{W:World}{B N:Nat}{u v1 v2:Value}(t:TO w h W)(hB:w.heap.size+1<B)(q:Blk W B [u] 25)(o1:Qe W (w.heap.size+1+1) v1 h.ws)(o2:Qe W N v2 h.ds)(lo:∀k,v1.ownBlock=some k→k<N)(hN:w.heap.size+1+1≤N)(hs:N≤W.heap.size):TC w h (W.setCell ⟨B,0,none⟩ v1) B N v1 v2 h.ws h.ds:=by
 refine⟨t.gb (Q1 W B 0 v1) (fun k e=>by cases e;exact hB),q.store 0 v1,?_,?_,lo,hN,hB,by simp[World.setCell];exact hs⟩
 ·exact ownsRow_setCell_other o1 (Qs o1 q (by decide)) _
 ·exact ownsRow_setCell_other o2 (Qs o2 q (by decide)) _
theorem Qhr (h:Hp)(w:World)(hh:Qj w h)(hwl:h.ws.length≤20)(hdl:h.ds.length≤20)(da:Option Addr)(dcap:Nat)(zs:List Int)(hz:Qi w da zs)(hzl:zs.length≤20)(hasc:∀j (hj:j<zs.length),0≤zs[j]∧zs[j].toNat+(zs.length-(j+1))<h.ws.length):
 Calls Cut.prog 82 #[h.v,.slice da zs.length dcap] w fun e w'=>∃(wa:Option Addr) (wcap:Nat) (ea:Option Addr) (ecap:Nat),e=.returned (.agg #[QhR h.oa h.os.length h.ocap,QhR h.ra h.rs.length h.rcap,QhR wa (QZ h.ws (bwd zs)).length wcap,QhR ea (h.ds++Q9 h.ws zs).length ecap])∧
  Qe w' w.heap.size (.slice wa (QZ h.ws (bwd zs)).length wcap) (QZ h.ws (bwd zs))∧Qe w' w.heap.size (.slice ea (h.ds++Q9 h.ws zs).length ecap) (h.ds++Q9 h.ws zs)∧Below w.heap.size w w':=by
 obtain⟨i0,hi,hz0,hz1,hz2⟩:=info_parts Jr
 have T0:TO w h ((w.alloc (QhT #[QhR h.oa h.os.length h.ocap,QhR h.ra h.rs.length h.rcap,QhR h.wa h.ws.length h.wcap,QhR h.da h.ds.length h.dcap] 27)).alloc (QhT #[QhR none 0 0,QhR none 0 0,QhR none 0 0,QhR none 0 0] 27)):=by
  refine⟨(Blk.new w [QhR h.oa h.os.length h.ocap,QhR h.ra h.rs.length h.rcap,QhR h.wa h.ws.length h.wcap,QhR h.da h.ds.length h.dcap] 27).alloc _,?_,((Below.refl _ _).alloc (QhS _) _).alloc (by simp) _⟩;have:=Blk.new (w.alloc (QhT #[QhR h.oa h.os.length h.ocap,QhR h.ra h.rs.length h.rcap,QhR h.wa h.ws.length h.wcap,QhR h.da h.ds.length h.dcap] 27)) [QhR none 0 0,QhR none 0 0,QhR none 0 0,QhR none 0 0] 27;rw[World.size_alloc]at this;exact this
 have K1:Hid (∀W,TO w h W→Calls Cut.prog 114 #[.slice h.wa h.ws.length h.wcap] W fun e w'=>∃v',e=.returned v'∧Qe w' W.heap.size v' h.ws∧Below W.heap.size W w'∧TO w h w'):=fun W t=>(Ok h.wa h.wcap h.ws W (hh.sw.below t.be (QhS _)) (by omega)).mono fun e w' ⟨v',h1,h2,h3⟩=>⟨v',h1,h2,h3,t.step h3⟩;have K2:Hid (∀W,TO w h W→Calls Cut.prog 114 #[.slice h.da h.ds.length h.dcap] W fun e w'=>∃v',e=.returned v'∧Qe w' W.heap.size v' h.ds∧Below W.heap.size W w'∧TO w h w'):=fun W t=>(Ok h.da h.dcap h.ds W (hh.sd.below t.be (QhS _)) (by omega)).mono fun e w' ⟨v',h1,h2,h3⟩=>⟨v',h1,h2,h3,t.step h3⟩
 have HDL:Hid (∀(pre:List (Int×Int)) (x:Int×Int),pre++ [x]<+:bwd zs→(QZ h.ws pre).length≤20):=fun pre x hp=>by
  have hl:=hp.length_le;rw[Ks]at hl;simp only[QhZ,QhV,QhW]at hl;have e:pre=(bwd zs).take pre.length:=List.prefix_iff_eq_take.1 ((List.prefix_append pre [x]).trans hp);have:=OC hasc pre.length (by omega);rw[←e]at this;omega
 refine(callsIn_wide (n:=10)).1 ?_;have hro:Fence.wide.round=none:=rfl;refine callsIn_of_wp_marks (Cut.func_of Tryz.func82 rfl) rfl trivial ?_ hro;refine wpIn_wide.2 (QbV ?_);simp only[Hp.v,Tryz.ntmps82,List.size_toArray,QhV,QhW,Nat.reduceAdd,Nat.reduceSub,Array.replicate_succ,Array.replicate_zero,List.push_toArray,List.append_toArray,List.nil_append,List.cons_append];go_wp2_with fail;obtain⟨W0,hW0⟩:∃W0,W0=((w.alloc (QhT #[QhR h.oa h.os.length h.ocap,QhR h.ra h.rs.length h.rcap,QhR h.wa h.ws.length h.wcap,QhR h.da h.ds.length h.dcap] 27)).alloc (QhT #[QhR none 0 0,QhR none 0 0,QhR none 0 0,QhR none 0 0] 27)):=⟨_,rfl⟩;rw[←hW0]at T0⊢;clear hW0;go_cut [5,6]from 11 to 16 (fun s5 s6 wx=>∃(B N:Nat) (v1:Value),s5=.pointer (some ⟨B,0,none⟩)∧TC w h wx B N v1 s6 h.ws h.ds)
 case first=>
  have T1:=T0.step ((Below.refl _ _).drew);obtain⟨x0,x1,x2,x3⟩:=Qb T1.bh;have hsz:=T1.sz;have hne0:¬w.heap.size=W0.drew.heap.size:=by omega
  have hne1:¬w.heap.size=W0.heap.size:=by have:=T0.sz;omega
  have TD:TO w h (W0.alloc (QhT #[QhR none 0 0] 25)).drew:=(T0.step (QC _ _)).step ((Below.refl _ _).drew);have hD:=Qb TD.bh;have BD:Blk (W0.alloc (QhT #[QhR none 0 0] 25)).drew W0.heap.size [QhR none 0 0] 25:=Blk.new W0 [QhR none 0 0] 25;have HA:Hid (∀(W:World) (o:Obj),TO w h W→TO w h (W.alloc o)):=fun W o t=>t.step (QC _ _)
  go_region_held3 (fun W'=>W'.cell? ⟨w.heap.size,0,none⟩=some (.slice h.oa h.os.length h.ocap)∧W'.cell? ⟨w.heap.size,1,none⟩=some (.slice h.ra h.rs.length h.rcap)∧W'.cell? ⟨w.heap.size,2,none⟩=some (.slice h.wa h.ws.length h.wcap)∧W'.cell? ⟨w.heap.size,3,none⟩=some (.slice h.da h.ds.length h.dcap)) (first|(refine⟨?_,?_,?_,?_⟩<;>with_reducible assumption)|exact hD|(refine QeH ?_ ?_ ?_ ?_ ?_<;>with_reducible assumption)|(refine QeI ?_ ?_ ?_ ?_<;>with_reducible assumption)|go_keep) (first
   |(go_at_call_of 114 (QhR h.wa h.ws.length h.wcap);refine(K1.out _ (by first|with_reducible assumption|exact HA.out _ _ (by with_reducible assumption))).mono ?_;rintro e w1 ⟨v1,rfl,ow1,hb1,T2⟩;obtain⟨va,vcap,rfl,-⟩:=ow1.form;have hn1:¬w.heap.size=w1.heap.size:=Nat.ne_of_lt (Nat.lt_of_succ_lt T2.sz);obtain⟨y0,y1,y2,y3⟩:=Qb T2.bh;try(have q1:Blk w1 W0.heap.size [QhR none 0 0] 25:=BD.step hb1))
   |(go_at_call_of 114 (QhR h.da h.ds.length h.dcap);refine(K2.out _ (by first|with_reducible assumption|exact HA.out _ _ (by with_reducible assumption))).mono ?_;rintro e w2 ⟨v2,rfl,ow2,hb2,T3⟩;obtain⟨ea,ecap,rfl,-⟩:=ow2.form;have hn2:¬w.heap.size=w2.heap.size:=Nat.ne_of_lt (Nat.lt_of_succ_lt T3.sz);obtain⟨z0,z1,z2,z3⟩:=Qb T3.bh;try(first|(have q2:Blk w2 W0.heap.size [QhR none 0 0] 25:=q1.step hb2)|(have q2:Blk w2 w1.heap.size [QhR none 0 0] 25:=(Blk.new w1 [QhR none 0 0] 25).step hb2));try(have q3:=q2.cell 0;have q4:=q2.free 0;simp only[Qh0]at q3)))
  ·go_wp2_with fail;go_meet
   case rel=>exact⟨_,_,_,rfl,TC.a T3 ((Qe.below ow1 hb2 (QhS _)).base hsz) ow2 (fun k e=>(ow1.lt k e).2) (by have:=T2.sz;omega) hb2.size⟩
  ·go_wp2_with fail;go_meet
   case rel=>exact⟨_,_,_,rfl,TC.b T3 (by have:=T2.sz;omega) q2 ((Qe.below (Qe.below ow1 (QC _ _) (QhS _)) hb2 (QhS _)).base hsz) ow2 (fun k e=>by have:=(ow1.lt k e).2;simp;omega) (by have:=T2.sz;simp;omega) hb2.size⟩
  ·go_wp2_with fail;go_meet
   case rel=>exact⟨_,_,_,rfl,TC.b T3 (by have:=T0.sz;omega) q2 ((Qe.below ow1 hb2 (QhS _)).base (by have:=T0.sz;simp;omega)) ow2 (fun k e=>(ow1.lt k e).2) (by have:=T2.sz;omega) hb2.size⟩
 case rest=>
  obtain⟨B,N,v1,rfl,C⟩:=hcut;clear T0 K1 K2;have e0:Q9 h.ws (zs.take 0)=[]:=rfl;have C0:TC w h wc B N v1 u6 h.ws (h.ds++Q9 h.ws (zs.take 0)):=by rw[e0,List.append_nil];exact C
  clear C e0;go_wp2;go_loopw [6,19] (fun v i wr=>∃k:Nat,k≤zs.length∧i=.int .i64 k∧TC w h wr B N v1 v h.ws (h.ds++Q9 h.ws (zs.take k))) (fun _ i _=>zs.length-(intOf i).toNat)
  case atStart=>exact⟨0,Nat.zero_le _,rfl,C0⟩
  case round=>
   obtain⟨k,hk,rfl,C⟩:=hrel;clear C0;by_cases hlt:k<zs.length
   ·obtain⟨b5,o5,rfl,hb5,e5⟩:=hz.get hlt;have d5:=(C.tt.be.cell (p:=⟨b5,o5+k,none⟩) hb5).trans e5;obtain⟨hz0',hz1'⟩:=hasc k hlt;have hzl':zs[k].toNat<h.ws.length:=by omega
    obtain⟨b,off,eo,hbo,e1,e2⟩:=hh.sw.get hzl';have d1:=(C.tt.be.cell (p:=⟨b,off+zs[k].toNat*2,none⟩) hbo).trans e1;have d2:=(C.tt.be.cell (p:=⟨b,off+zs[k].toNat*2+1,none⟩) hbo).trans e2
    have HF:Hid (h.ds++Q9 h.ws (zs.take (k+1))=h.ds++Q9 h.ws (zs.take k)++ [h.ws[zs[k].toNat]]):=by
     show _=_;unfold Q9;rw[List.take_succ_eq_append_getElem hlt,List.map_append,←List.append_assoc];simp[List.getD,QhX hzl']
    have hLL:(h.ds++Q9 h.ws (zs.take k)).length≤20+k:=by simp[Q9];omega
    obtain⟨x0,x1,x2,x3⟩:=Qb C.tt.bh;have hi1:(k:Int)<(zs.length:Int):=by omega
    have hi2:zs[k]<(h.ws.length:Int):=by omega
    clear hasc;generalize h.wa=OA at eo x2⊢;subst eo;generalize hP:h.ws[zs[k].toNat]=p at *;clear hP e1 e2 e5;generalize zs[k]=z at *;obtain⟨g1,g2⟩:=p;dsimp only at *;generalize hL:h.ds++Q9 h.ws (zs.take k)=L at *;have HL:Hid (h.ds++Q9 h.ws (zs.take k)=L):=hL;clear hL;have CA:=C.step (QC wr (QhT #[QhU .i64 g1,QhU .i64 g2] 40));obtain⟨va,vcap,rfl,-⟩:=C.od.form;have hvA:(wr.alloc (QhT #[QhU .i64 g1,QhU .i64 g2] 40)).ownsRow N 40 2 (.slice va L.length vcap) L.length (L.flatMap Go.Proofs.YtcpnkpogebjieaaGreat.wc):=CA.od
    have HEND:Hid (∀v' w3,w3.ownsRow N 40 2 v' (L.length+1) (L.flatMap Go.Proofs.YtcpnkpogebjieaaGreat.wc++ [.int .i64 g1,.int .i64 g2])→(wr.alloc (QhT #[QhU .i64 g1,QhU .i64 g2] 40)).grownBy w3 (QhR va L.length vcap).ownBlock→TC w h w3 B N v1 v' h.ws (h.ds++Q9 h.ws (zs.take (k+1)))):=fun v' w3 ho hg=>by
     refine CA.grow hg ?_;rw[HF.out];unfold Qe;simpa[Go.Proofs.YtcpnkpogebjieaaGreat.wc]using ho
    have hl1:L.length+1≤maxLen:=by unfold maxLen;omega
    have hl2:(L.length+1)*16≤140737488355328:=by omega
    have hbs:N≤(wr.alloc (QhT #[QhU .i64 g1,QhU .i64 g2] 40)).heap.size:=CA.sz;clear CA C;go_wp2_with (at_builtin;refine wpList_append_own_at _ rfl _ _ 25 rfl N 40 i0 _ 2 16 ((Cut.under_eq 25).trans Tryz.underlying25) hi hz0 hz1 hz2 rfl (by decide) _ _ _ rfl hvA ⟨wr.heap.size,0,none⟩ 1 1 [.int .i64 g1,.int .i64 g2] rfl rfl (Yc (g1,g2) _) (JU [(g1,g2)]) hl1 hl2 hbs ?_);intro v' w3 hown3 hgr _ _;have C3:=HEND.out v' w3 hown3 hgr;clear hown3 hgr HEND hvA;go_wp2;go_roundw
    case rel=>exact⟨k+1,by omega,by go_num,C3⟩
    case measure=>simp[intOf];omega
   ·have ek:zs.take k=zs:=Qh3 (by omega);rw[ek]at C;clear ek;obtain⟨va,vcap,rfl,-⟩:=C.od.form;have c5:=Qci da zs.length dcap wr;go_wp2_with fail;refine c5.mono ?_;rintro e w5 ⟨rfl,hw5⟩;clear c5;have HRS:Hid ((h.ds++Q9 h.ws zs).length=h.ds.length+(Q9 h.ws zs).length):=QhZ;generalize hRS:h.ds++Q9 h.ws zs=rs at *;have HRS2:Hid (h.ds++Q9 h.ws zs=rs):=hRS;clear hRS;have hb5:Below w.heap.size w w5:=by rw[hw5];exact C.tt.be.trans ((QC _ _).mono C.tt.be.size)
    have hle:w.heap.size≤w5.heap.size:=hb5.size;have hN2:wr.heap.size<w5.heap.size:=by rw[hw5];simp
    have hBx:Blk w5 wr.heap.size [QhR da zs.length dcap] 24:=by rw[hw5];exact Blk.new wr [QhR da zs.length dcap] _
    have hseq:=Qch zs da dcap (10-1) wr.heap.size w w5 (by omega) hz (by omega) hb5 hBx;have hH0:HoT w h B N wr.heap.size (.slice va rs.length vcap) rs (fun k=>k=wr.heap.size) [] w5:=⟨fun k e=>by omega,by omega,v1,by rw[hw5];exact C.step (QC _ _),fun k e=>(C.ow.lt k e).2⟩;have hBl:B<wr.heap.size:=C.bw.lt;have hdl':∀k,(QhR va rs.length vcap).ownBlock=some k→k<wr.heap.size:=fun k e=>(C.od.lt k e).2;have hw2:w.heap.size+1<wr.heap.size:=C.tt.sz;generalize wr.heap.size=N2 at *;clear hw5 hBx C;have h10:(1:Nat)≤10:=by omega
    go_wp2_with fail
    refine wpIn_wide.1 (PO (n:=10) hro h10 (gf:=147) (lb:=#[.pointer (some ⟨N2,0,none⟩)]) rfl trivial (enters_of (Cut.func_of Tryz.func147 rfl) (by kernel_rfl) rfl) hle (fun k e=>by omega) hseq (fun _=>rfl) (HoT w h B N N2 (.slice va rs.length vcap) rs) (HoT.chg hBl hdl' hw2) (HoT.put hBl hdl' hw2 (by omega)) HoT.al hH0
     (fun x=>{tmps:=#[Value.agg #[QhR h.oa h.os.length h.ocap,QhR h.ra h.rs.length h.rcap,QhR h.wa h.ws.length h.wcap,QhR h.da h.ds.length h.dcap],QhR da zs.length dcap,Qh1 (some ⟨w.heap.size,0,none⟩),undef,Qh1 (some ⟨w.heap.size+1,0,none⟩),Qh1 (some ⟨B,0,none⟩),QhR va rs.length vcap,undef,u8,undef,.int .i64 x.2,u11,u12,u13,u14,u15,u16,QhR da zs.length dcap,QhU .i64 zs.length,QhU .i64 k,Value.bool false,u21,u22,u23,u24,u25,u26,u27,u28,u29,u30,u31,QhR da zs.length dcap,Value.func (Fn.func 147) #[] #[Qh1 (some ⟨N2,0,none⟩)],.int .i64 x.1,.int .i64 x.2,undef,undef,undef,undef,undef,undef,undef,undef,undef,undef,undef,undef],defers:=[]}) ?assign ?body ?done)
    case assign=>
     intro l x W K hK
     gi_wp2
     exact hK
    case body=>
     rintro l M pre x W ⟨hM,hNW,v,C,hv⟩ hp;obtain⟨hx0,hx1⟩:=Qf2 hasc hp;have hc:=C.bw.cell 0;simp only[Qh0]at hc;have hl0:(QZ h.ws pre).length≤20:=HDL.out pre x hp;obtain⟨x1,x2⟩:=x;dsimp only at hx0 hx1;have c6:=QdH (w.heap.size+1+1) v (QZ h.ws pre) x2.toNat W C.ow hx1 (by omega);rw[Int.toNat_of_nonneg hx0]at c6;have hwr:IntKind.i64.wrap (x2+1)=x2+1:=by rw[IntKind.wrap_i64];omega
     have HS:Hid (QZ h.ws (pre++ [(x1,x2)])=(QZ h.ws pre).eraseIdx x2.toNat):=OB _ _ _;generalize (QZ h.ws pre).eraseIdx x2.toNat=ws' at c6 HS;have hWs:=C.tt.be.size;dsimp only
     gi_wp2_with fail
     refine⟨trivial,?_⟩;refine(show CallsIn (Fence.wide.inRound l) _ _ _ _ _ _ from callsIn_wide.2 c6).mono ?_;rintro e w6 ⟨v',rfl,ho6,hg6,hv6⟩;obtain⟨CD,hb6⟩:=C.del hg6 ho6 hv6;obtain⟨na,nc,rfl,-⟩:=ho6.form;have hc6:=hb6.cell 0;have hf6:=hb6.free 0;simp only[Qh0]at hc6
     have HE:Hid (VQ w.heap.size (HoT w h B N N2 (QhR va rs.length vcap) rs) M (pre++ [(x1,x2)]) W .normal ⟨#[],[]⟩ (w6.setCell ⟨B,0,none⟩ (QhR na ws'.length nc))):=by
      have hB':=C.hB;have hgb:=QJ hg6 hWs (fun k e=>by have:=(C.ow.lt k e).1;omega);refine⟨(KeepsOthers.of_grownBy hg6 (fun j o e hj=>VT C.ow e hj)).trans (KeepsOthers.setCell _ _ _),fun k hk=>?_,hgb.setCell (by dsimp only;omega) _,fun k hk=>⟨(hM k hk).1,?_⟩,?_,_,by rw[HS.out];exact CD,fun k e=>hv k (hv6▸e)⟩
      ·have h1:=hM k hk;rw[Below.heap_setCell _ _ _ _ (by dsimp only;omega)];exact hg6.block k h1.2 (fun e=>by have:=hv k e.symm;omega)
      ·have:=hM k hk;have:=hg6.size;simp[World.setCell];omega
      ·have:=hg6.size;simp[World.setCell];omega
     clear hg6 ho6 hb6 CD c6 C hv6
     gi_wp2
     exact HE.out
    case done=>
     rintro D M W hD ⟨hM,hNW,v,C,hv⟩ hK;have hc:=C.bw.cell 0;simp only[Qh0]at hc;obtain⟨x0,x1,x2,x3⟩:=Qb C.tt.bh;obtain⟨r0,r1,r2,r3⟩:=Qb C.tt.br;obtain⟨f0,f1,f2,f3⟩:=Qo C.tt.br;obtain⟨na,nc,rfl,-⟩:=C.ow.form;obtain⟨kq,bq⟩:=QR C.tt.br (.slice h.oa h.os.length h.ocap) (.slice h.ra h.rs.length h.rcap) (.slice na (QZ h.ws (bwd zs)).length nc) (.slice va rs.length vcap);have hbF:=ZS C.tt.be (C:=w.heap.size+1) (by omega) (.slice h.oa h.os.length h.ocap) (.slice h.ra h.rs.length h.rcap) (.slice na (QZ h.ws (bwd zs)).length nc) (.slice va rs.length vcap)
     have hKF:((((W.setCell ⟨w.heap.size+1,0,none⟩ (.slice h.oa h.os.length h.ocap)).setCell ⟨w.heap.size+1,1,none⟩ (.slice h.ra h.rs.length h.rcap)).setCell ⟨w.heap.size+1,2,none⟩ (.slice na (QZ h.ws (bwd zs)).length nc)).setCell ⟨w.heap.size+1,3,none⟩ (.slice va rs.length vcap)).heap[D]? =some (.deferred (some [])):=by
      rw[Below.heap_setCell _ _ _ _ (by dsimp only;omega),Below.heap_setCell _ _ _ _ (by dsimp only;omega),Below.heap_setCell _ _ _ _ (by dsimp only;omega),Below.heap_setCell _ _ _ _ (by dsimp only;omega)];exact hK
     have o1:=Qm C.ow kq (by decide);have o2:=Qm C.od kq (by decide);have hNN:=C.hN;clear kq C hK hM;go_wp2;generalize ((((W.setCell ⟨w.heap.size+1,0,none⟩ (.slice h.oa h.os.length h.ocap)).setCell ⟨w.heap.size+1,1,none⟩ (.slice h.ra h.rs.length h.rcap)).setCell ⟨w.heap.size+1,2,none⟩ (.slice na (QZ h.ws (bwd zs)).length nc)).setCell ⟨w.heap.size+1,3,none⟩ (.slice va rs.length vcap))=WF at *;have bqF:Blk (WF.putObj D (.deferred none)) (w.heap.size+1) [QhR h.oa h.os.length h.ocap,QhR h.ra h.rs.length h.rcap,QhR na (QZ h.ws (bwd zs)).length nc,QhR va rs.length vcap] 27:=bq.same (World.putObj_heap_other (by omega));have o1F:=ownsRow_putObj o1 (.deferred none) hKF rfl;have o2F:=ownsRow_putObj o2 (.deferred none) hKF rfl;have hbFF:=hbF.trans (belowK_b (w:=w) (QhS _) WF D _ (.deferred none) (by omega) hKF rfl rfl);refine⟨by simp,.inl ⟨_,_,rfl,run_takeDeferred hKF,?_⟩⟩;obtain⟨z0,z1,z2,z3⟩:=Qb bqF;generalize WF.putObj D (.deferred none)=WG at *;refine⟨.agg #[QhR h.oa h.os.length h.ocap,QhR h.ra h.rs.length h.rcap,QhR na (QZ h.ws (bwd zs)).length nc,QhR va rs.length vcap],?_,na,nc,va,vcap,by rw[HRS2.out],Qe.base o1F (by omega),by rw[HRS2.out];exact Qe.base o2F (by omega),hbFF⟩;simp[results,Tryz.results82,go_sem,z0,z1,z2,z3]
end
namespace Co
def Vr (ws:List (Int×Int)):List Int→List (Int×Int)
 | []=>ws
 |z::zs=>(Vr ws zs).eraseIdx z.toNat
theorem QdG (ws pre:List (Int×Int)):QZ ws pre=(pre.map fun x=>x.2).foldl (fun l z=>l.eraseIdx z.toNat) ws:=by
 unfold QZ;rw[List.foldl_map]
theorem Qcw (zs:List Int):(bwd zs).map (fun x=>x.2)=zs.reverse:=by
 unfold bwd;rw[List.map_reverse,List.map_map];congr 1;exact List.zipIdx_map_fst 0 zs
theorem QdF (ws:List (Int×Int))(zs:List Int):QZ ws (bwd zs)=Vr ws zs:=by
 rw[QdG,Qcw]
 induction zs with
 |nil=>rfl
 |cons z zs ih=>
  rw[List.reverse_cons,List.foldl_append,ih];rfl
variable (R wh:List Int)
theorem OP (ws:List (Int×Int)):∀(l pre:List (Int×Int)),ws=pre++l→(Zd R wh pre.length l).map (fun z=>ws.getD z.toNat (0,0))=l.filter (ZU R wh)
 | [],_,_=>rfl
 |x::l,pre,e=>by
  have ih:=OP ws l (pre++ [x]) (by rw[e];simp);simp only[QhZ,QhV,QhW]at ih;unfold Zd;rw[List.filter_cons]
  cases hx:ZU R wh x with
  |false=>simpa using ih
  |true=>
   simp only[if_true,List.map_cons];rw[show(pre.length+(0+1))=pre.length+1 by omega]at ih;rw[ih];congr 1;rw[e];simp[List.getD]
theorem OQ:∀(l pre:List (Int×Int)),Vr (pre++l) (Zd R wh pre.length l)=pre++l.filter fun x=>!ZU R wh x
 | [],pre=>rfl
 |x::l,pre=>by
  have ih:=OQ l (pre++ [x]);simp only[QhZ,QhV,QhW]at ih;rw[show(pre.length+(0+1))=pre.length+1 by omega]at ih;have e:pre++x::l=(pre++ [x])++l:=by simp
  unfold Zd;rw[List.filter_cons]
  cases hx:ZU R wh x with
  |false=>
   rw[e];simp only[Bool.false_eq_true,if_false,Bool.not_false,if_true];rw[ih];simp
  |true=>
   rw[e];simp only[if_true,Bool.not_true,Bool.false_eq_true,if_false,Vr];rw[ih,Int.toNat_natCast,List.eraseIdx_append_of_lt_length (by simp),List.eraseIdx_append_of_length_le (QhS _)];simp
theorem ON:∀(l:List (Int×Int)) (k j:Nat) (hj:j<(Zd R wh k l).length),(k:Int)≤(Zd R wh k l)[j]∧(Zd R wh k l)[j].toNat+((Zd R wh k l).length-(j+1))<k+l.length
 | [],k,j,hj=>by simp[Zd]at hj
 |x::l,k,j,hj=>by
  have ih:=ON l (k+1);have hle:=Vs R wh l (k+1)
  cases hx:ZU R wh x with
  |false=>
   have e:Zd R wh k (x::l)=Zd R wh (k+1) l:=by simp[Zd,hx]
   simp only[e]at hj⊢;have:=ih j hj;simp only[QhV];omega
  |true=>
   have e:Zd R wh k (x::l)=(k:Int)::Zd R wh (k+1) l:=by simp[Zd,hx]
   simp only[e]at hj⊢;simp only[QhV]at hj⊢
   cases j with
   |zero=>
    simp only[List.getElem_cons_zero];omega
   |succ j=>
    have:=ih j (by omega);simp only[List.getElem_cons_succ];omega
theorem OS {h:Hp}(c:OkC h):∀p∈h.ws,ZU ((reachP h.p).filter fun q=>decide ((h.os.map (·.k)).getD q.toNat 0=4)) (whs (reachP h.p) h.os.length) p=(decide (0≤pos (reachP h.p) p.1)&&decide (pos (reachP h.p) p.2<0)):=fun p hp=>by
 have hw:=c.wo p hp;simp only[Qn,inB,Bool.and_eq_true,decide_eq_true_eq,List.length_map]at hw;obtain⟨⟨h1,h2⟩,h3⟩:=hw;have l1:p.1.toNat<h.os.length:=by omega
 have l2:p.2.toNat<(whs (reachP h.p) h.os.length).length:=by rw[Yd];omega
 have e2:(whs (reachP h.p) h.os.length).getD p.2.toNat 0=pos (reachP h.p) p.2:=by
  rw[List.getD_eq_getElem?_getD,QhX l2,Option.getD_some,Ka _ _ _ (by omega)]
 unfold ZU;rw[e2];congr 1;rw[Bool.eq_iff_iff];simp only[decide_eq_true_eq,List.mem_filter,Jv];refine⟨fun q=>q.1,fun q=>⟨q,?_⟩⟩;rw[List.getElem?_map,QhX l1]at h3;simp only[Option.map_some,Option.some.injEq,Ob.p]at h3;simp[List.getD,QhX l1,h3]
theorem OJ {h:Hp}(c:OkC h):Q9 h.ws (QD h)=Ql h.ws (reachP h.p):=by
 refine(OP ((reachP h.p).filter fun q=>decide ((h.os.map (·.k)).getD q.toNat 0=4)) (whs (reachP h.p) h.os.length) h.ws h.ws [] rfl).trans ?_;unfold Ql;exact List.filter_congr fun p hp=>OS c p hp
theorem OL {h:Hp}(c:OkC h):QZ h.ws (bwd (QD h))=QW h.ws (Ql h.ws (reachP h.p)):=by
 rw[QdF];have:=OQ ((reachP h.p).filter fun q=>decide ((h.os.map (·.k)).getD q.toNat 0=4)) (whs (reachP h.p) h.os.length) h.ws [];simp only[List.nil_append,QhW]at this;unfold QD;rw[this];unfold QW;refine List.filter_congr fun p hp=>?_;rw[OS c p hp];congr 1;rw[Bool.eq_iff_iff,decide_eq_true_eq,U6];exact⟨fun q=>⟨hp,q⟩,fun q=>q.2⟩
theorem QdN (h:Hp):∀j (hj:j<(QD h).length),0≤(QD h)[j]∧(QD h)[j].toNat+((QD h).length-(j+1))<h.ws.length:=fun j hj=>by
 have:=ON ((reachP h.p).filter fun q=>decide ((h.os.map (·.k)).getD q.toNat 0=4)) (whs (reachP h.p) h.os.length) h.ws 0 j hj;simp only[Nat.zero_add]at this;exact this
theorem QdO (h:Hp):(QD h).length≤h.ws.length:=Vs _ _ _ _
theorem OM {h:Hp}(c:OkC h):QD h=[]↔Ql h.ws (reachP h.p)=[]:=by
 rw[←OJ c];unfold Q9;exact List.map_eq_nil_iff.symm
end Co
end Go.Proofs.YtcpnkpogebjieaaGreat
