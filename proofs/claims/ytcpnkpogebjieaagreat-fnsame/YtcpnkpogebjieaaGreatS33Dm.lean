/- The specification's own events: an object that is made, walked. -/
import Derived.Test.YtcpnkpogebjieaaGreatS32Dk
import Derived.Deep.CutBlock
open Nat renaming le_refl→QhR
open Go.Value renaming slice→QhS,int→QhW,string→QhX
open List renaming setIfInBounds_toArray→QhT,set_cons_zero→QhU,set_cons_succ→QhV
open Go.World renaming cell?_of_block→QhY
set_option maxHeartbeats 3200000
set_option maxRecDepth 100000
namespace Go.Proofs.YtcpnkpogebjieaaGreat
section
open Go.RowKit
structure Yf (w:World) (h:Hp) (e:Ev) (m:Nat) (a:Option Addr) (cc:Nat) (wr:World) (k:Nat):Prop where
 b:Bx3 w wr h e
 bo:Blk wr m [QhW .i64 e.o.k,QhX e.o.t,QhS a e.o.r.length cc] 37
 ro:Qa wr w.heap.size (.slice a e.o.r.length cc) (Jn (rootP h.rs) e.o.r k)
 be:Below w.heap.size w wr
 mge:w.heap.size≤m
theorem Yf.step {w:World}{h:Hp}{e:Ev}{m:Nat}{a:Option Addr}{cc:Nat}{wr W:World}{k:Nat}(c:Yf w h e m a cc wr k)(hb:Below wr.heap.size wr W):Yf w h e m a cc W k:=
 ⟨c.b.step hb,c.bo.step hb,c.ro.below hb (QhR _),c.be.trans (hb.mono c.be.size),c.mge⟩
theorem Yf.set {w:World}{h:Hp}{e:Ev}{m g cc:Nat}{wr:World}{k:Nat}(c:Yf w h e m (some ⟨g,0,none⟩) cc wr k)(hk:k<e.o.r.length):Yf w h e m (some ⟨g,0,none⟩) cc (wr.setCell ⟨g,k,none⟩ (.int .i64 (rootP h.rs e.o.r[k]))) (k+1):=by
 have hg:w.heap.size≤g:=(c.ro.lt g rfl).1;have n1:w.heap.size≠g:=fun q=>Qs c.ro c.b.bh (by decide) (by rw[q];rfl);have n2:w.heap.size+1≠g:=fun q=>Qs c.ro c.b.bv (by decide) (by rw[q];rfl);have n3:w.heap.size+1+1≠g:=fun q=>Qs c.ro c.b.br (by decide) (by rw[q];rfl);have n4:m≠g:=fun q=>Qs c.ro c.bo (by decide) (by rw[q];rfl);refine⟨⟨c.b.bh.other _ _ n1,c.b.bv.other _ _ n2,c.b.br.other _ _ n3⟩,c.bo.other _ _ n4,?_,c.be.setCell hg _,c.mge⟩;have:=c.ro.set (UW _ _ _ (Nat.le_of_lt hk)).symm (k:=k) (rootP h.rs e.o.r[k]);rw[Pg _ _ _ hk]at this;exact this
theorem QeW (h:Hp)(e:Ev)(B T:Nat)(w:World)(hq:Qk w B h)(hB:B≤w.heap.size)(c:OkC h)(hT:Ve h T)(he:Qi w e.o.ra e.o.r)(hel:e.o.r.length≤1048576)(het:e.o.t.size≤maxLen)(h0:0≤e.to)(h1:e.to<h.rs.length):
 Calls Cut.prog 121 #[h.v,e.v] w fun en w'=>∃(y:Hp) (s:ByteArray),en=.returned (.tuple #[y.v,.string s])∧OkC y∧Qk w' B y∧Md B T w w':=by
 obtain⟨i0,hi,hz0,hz1,hz2⟩:=info_parts YT;obtain⟨b0,hb0⟩:=Bx3.start w h e;have c1:=K5 e.o _ (he.below hb0 (QhR _)) hel;go_enter (Cut.func_of Tryz.func121 rfl),Tryz.ntmps121;simp only[Hp.v,Ev.v,Ev.cs]at c1⊢;go_wp2_with fail;refine c1.mono ?_;rintro en w1 ⟨a,cc,rfl,hoo,hb1⟩;have b1:=b0.step hb1;have hB1:=hb0.trans (hb1.mono hb0.size);have hA:Below w1.heap.size w1 (w1.alloc (Obj.cells #[QhW .i64 e.o.k,QhX e.o.t,QhS a e.o.r.length cc] 37)):=(Below.refl _ _).alloc (QhR _) _;have M0:Yf w h e w1.heap.size a cc (w1.alloc (Obj.cells #[QhW .i64 e.o.k,QhX e.o.t,QhS a e.o.r.length cc] 37)) 0:=⟨b1.step hA,Blk.new w1 _ _,by rw[Qar];exact(hoo.below hA (QhR _)).base hb0.size,hB1.trans (hA.mono hB1.size),hB1.size⟩;generalize hm:w1.heap.size=m at M0;have HM:Hid (w1.heap.size=m):=hm;clear c1 b0 hb0 b1 hB1 hb1 hoo hA;go_wp2;clear hm;go_loopw [7] (fun i wr=>∃k:Nat,k≤e.o.r.length∧i=.int .i64 k∧Yf w h e m a cc wr k) (fun i _=>e.o.r.length-(intOf i).toNat)
 case atStart=>exact⟨0,Nat.zero_le _,rfl,M0⟩
 case round=>
  obtain⟨k,hk,rfl,M⟩:=hrel;clear M0;by_cases hlt:k<e.o.r.length
  ·have hml:=UW (rootP h.rs) e.o.r k hk;obtain⟨g,rfl⟩:=M.ro.ptr (by omega);have hel':=M.ro.at (k:=k) (by omega);rw[Pf _ _ _ hlt]at hel';have hsz:=M.be.size;have hdr:Below wr.heap.size wr wr.drew:=(Below.refl _ _).drew;have Md:=M.step hdr;have c2:=Uw h e.o.r[k] wr.drew ((hq.isIn.sr).below Md.be (QhR _)) c.small.r;simp only[Hp.v]at c2;obtain⟨o0,o1,o2⟩:wr.cell? ⟨m,0,none⟩=some (.int .i64 e.o.k)∧wr.cell? ⟨m,1,none⟩=some (.string e.o.t)∧wr.cell? ⟨m,2,none⟩=some (.slice (some ⟨g,0,none⟩) e.o.r.length cc):=⟨M.bo.cell 0,M.bo.cell 1,M.bo.cell 2⟩;obtain⟨x0,x1,x2,x3⟩:=Qu M.b.bh;have hS:(fun W'=>W'.cell? ⟨m,2,none⟩=some (.slice (some ⟨g,0,none⟩) e.o.r.length cc)∧W'.cell? ⟨w.heap.size,0,none⟩=some (.slice h.oa h.os.length h.ocap)∧W'.cell? ⟨w.heap.size,1,none⟩=some (.slice h.ra h.rs.length h.rcap)∧W'.cell? ⟨w.heap.size,2,none⟩=some (.slice h.wa h.ws.length h.wcap)∧W'.cell? ⟨w.heap.size,3,none⟩=some (.slice h.da h.ds.length h.dcap)) wr.drew:=⟨o2,x0,x1,x2,x3⟩;have hi1:(k:Int)<(e.o.r.length:Int):=by omega
   have hed:wr.drew.cell? ⟨g,k,none⟩=some (.int .i64 e.o.r[k]):=hel'
   have HSt:Hid (∀w2,Below wr.drew.heap.size wr.drew w2→((fun W'=>W'.cell? ⟨m,2,none⟩=some (.slice (some ⟨g,0,none⟩) e.o.r.length cc)∧W'.cell? ⟨w.heap.size,0,none⟩=some (.slice h.oa h.os.length h.ocap)∧W'.cell? ⟨w.heap.size,1,none⟩=some (.slice h.ra h.rs.length h.rcap)∧W'.cell? ⟨w.heap.size,2,none⟩=some (.slice h.wa h.ws.length h.wcap)∧W'.cell? ⟨w.heap.size,3,none⟩=some (.slice h.da h.ds.length h.dcap)) w2∧w2.cell? ⟨g,k,none⟩=some (.int .i64 e.o.r[k])∧w2.frozen? ⟨g,k,none⟩=false)∧((fun W'=>W'.cell? ⟨m,2,none⟩=some (.slice (some ⟨g,0,none⟩) e.o.r.length cc)∧W'.cell? ⟨w.heap.size,0,none⟩=some (.slice h.oa h.os.length h.ocap)∧W'.cell? ⟨w.heap.size,1,none⟩=some (.slice h.ra h.rs.length h.rcap)∧W'.cell? ⟨w.heap.size,2,none⟩=some (.slice h.wa h.ws.length h.wcap)∧W'.cell? ⟨w.heap.size,3,none⟩=some (.slice h.da h.ds.length h.dcap)) (w2.setCell ⟨g,k,none⟩ (.int .i64 (rootP h.rs e.o.r[k])))∧Yf w h e m (some ⟨g,0,none⟩) cc (w2.setCell ⟨g,k,none⟩ (.int .i64 (rootP h.rs e.o.r[k]))) (k+1))):=fun w2 hb2=>by
    have M2:=Md.step hb2;have M3:=M2.set hlt;have q0:=M2.ro.at (k:=k) (by omega);rw[Pf _ _ _ hlt]at q0;exact⟨⟨⟨M2.bo.cell 2,Qu M2.b.bh⟩,q0,M2.ro.free k⟩,⟨M3.bo.cell 2,Qu M3.b.bh⟩,M3⟩
   generalize hZ:e.o.r[k]=z at *;clear hZ;generalize hRZ:rootP h.rs z=Rz at *;clear hRZ M Md hdr hml hel';go_wp2_with fail;refine wp_region_held_drew (S:=(fun W'=>W'.cell? ⟨m,2,none⟩=some (.slice (some ⟨g,0,none⟩) e.o.r.length cc)∧W'.cell? ⟨w.heap.size,0,none⟩=some (.slice h.oa h.os.length h.ocap)∧W'.cell? ⟨w.heap.size,1,none⟩=some (.slice h.ra h.rs.length h.rcap)∧W'.cell? ⟨w.heap.size,2,none⟩=some (.slice h.wa h.ws.length h.wcap)∧W'.cell? ⟨w.heap.size,3,none⟩=some (.slice h.da h.ds.length h.dcap))) (by kernel_rfl) hS (fun hHeld=>?_);clear hHeld;refine tk 0 18 rfl rfl hS ?_;simp only[QhT,QhU,QhV];refine tk 1 19 rfl rfl hS ?_;simp only[QhT,QhU,QhV];refine tk 2 20 rfl rfl hS ?_;simp only[QhT,QhU,QhV];refine tk 3 21 rfl rfl hS ?_;simp only[QhT,QhU,QhV];refine tk 4 22 rfl rfl hS ?_;simp only[QhT,QhU,QhV];refine tk 5 23 rfl rfl hS ?_;simp only[QhT,QhU,QhV];refine tk 6 24 rfl rfl hS ?_;simp only[QhT,QhU,QhV];refine tk 7 25 rfl rfl hS ?_;simp only[QhT,QhU,QhV];refine wpAnyH_ready (rs:=[8]) (by kernel_rfl) (by simp) ?_;refine AllReadyH.cons (o:=_) rfl (fun K hK=>?_) AllReadyH.nil;go_simp;refine hK.out _ _ hS (fun _=>?_);clear hK K
   try simp only[Act.put,QhT,QhU,QhV]
   refine wpAnyH_ready (rs:=[9]) (by kernel_rfl) (by simp) ?_;refine AllReadyH.cons (o:=_) rfl (fun K hK=>?_) AllReadyH.nil;go_simp;refine c2.mono ?_;rintro en w2 ⟨rfl,hb2⟩;obtain⟨⟨hS2,q0,q1⟩,hS3,M3⟩:=HSt.out w2 hb2;go_wp2_with fail;refine hK.out _ _ hS2 (fun _=>?_);clear hK K
   try simp only[Act.put,QhT,QhU,QhV]
   refine tk 10 28 rfl rfl hS2 ?_;simp only[QhT,QhU,QhV];refine wpAnyH_ready (rs:=[11]) (by kernel_rfl) (by simp) ?_;refine AllReadyH.cons (o:=_) rfl (fun K hK=>?_) AllReadyH.nil;go_simp;refine hK.out _ _ hS3 (fun _=>?_);clear hK K
   try simp only[Act.put]
   refine wpAnyH_done (by kernel_rfl) ?_ _;clear HSt c2;go_wp2;go_roundw
   case rel=>exact⟨k+1,by omega,by go_num,M3⟩
   case measure=>simp[intOf];omega
  ·obtain rfl:k=e.o.r.length:=by omega
   have hro:=M.ro;rw[Pe]at hro;have hrl:(e.o.r.map (rootP h.rs)).length=e.o.r.length:=List.length_map _
   have hsg:Qi wr a (e.o.r.map (rootP h.rs)):=by
    obtain⟨a',cap,q,hs,_⟩:=hro.form;simp only[Value.slice.injEq]at q;rw[q.1];exact hs
   have hn60:=c.n60;have c3:=Qab e.o.k e.o.t a e.o.r.length cc (e.o.r.map (rootP h.rs)) (h.os.length:Int) wr hrl (by unfold maxLen;omega) het hsg (by omega) (by omega);obtain⟨o0,o1,o2⟩:wr.cell? ⟨m,0,none⟩=some (.int .i64 e.o.k)∧wr.cell? ⟨m,1,none⟩=some (.string e.o.t)∧wr.cell? ⟨m,2,none⟩=some (.slice a e.o.r.length cc):=⟨M.bo.cell 0,M.bo.cell 1,M.bo.cell 2⟩;obtain⟨⟨x0,x1,x2,x3⟩,⟨y0,y1,y2,y3,y4,y5,y6⟩,⟨r0,r1,r2,r3⟩,f0,f1,f2,f3⟩:=M.b.cells;go_wp2_with fail;refine c3.mono ?_;rintro en w2 ⟨rfl,hb2⟩;have M2:=M.step hb2;have hro2:=hro.below hb2 (QhR _);have hq2:=hq.below M2.be (QhR _);have hBB:Md B T w w2:=Md.of M2.be hB;have hB2:=M2.be.size;obtain⟨hqE,hbE,z0,z1,z2,z3⟩:=Jx M2.b.br hq2 hBB (by omega) (by omega) _ _ _ _ rfl rfl rfl rfl;clear c3 M hro hsg hb2 o0 o1 o2 x0 x1 x2 x3 y0 y1 y2 y3 y4 y5 y6 r0 r1 r2 r3 f0 f1 f2 f3;obtain⟨o0,o1,o2⟩:w2.cell? ⟨m,0,none⟩=some (.int .i64 e.o.k)∧w2.cell? ⟨m,1,none⟩=some (.string e.o.t)∧w2.cell? ⟨m,2,none⟩=some (.slice a e.o.r.length cc):=⟨M2.bo.cell 0,M2.bo.cell 1,M2.bo.cell 2⟩;obtain⟨⟨x0,x1,x2,x3⟩,⟨y0,y1,y2,y3,y4,y5,y6⟩,⟨r0,r1,r2,r3⟩,f0,f1,f2,f3⟩:=M2.b.cells
   cases hobj:Qt (h.os.length:Int) (e.o.k,e.o.t,e.o.r.map (rootP h.rs))with
   |false=>
    clear hobj;go_wp2;refine bodyPost_ret (v:=.tuple #[h.v,.string ⟨#[110,111]⟩]) ?_ rfl ⟨h,_,rfl,c,hqE,hbE⟩;simp[results,Tryz.results121,go_sem,z0,z1,z2,z3,Hp.v]
   |true=>
    have HOB:Hid (Qt (h.os.length:Int) (e.o.k,e.o.t,e.o.r.map (rootP h.rs))=true):=hobj;clear hobj;by_cases hfull:60≤h.os.length
    ·have hf:(60:Int)≤(h.os.length:Int):=by omega
     go_wp2;refine bodyPost_ret (v:=.tuple #[h.v,.string ⟨#[102,117,108,108]⟩]) ?_ rfl ⟨h,_,rfl,c,hqE,hbE⟩;simp[results,Tryz.results121,go_sem,z0,z1,z2,z3,Hp.v]
    ·have hf:¬(60:Int)≤(h.os.length:Int):=by omega
     have hfd:decide ((60:Int)≤(h.os.length:Int))=false:=by simpa using hf
     clear hqE hbE z0 z1 z2 z3;obtain⟨gr,hgr⟩:=hq.ro.ptr (by omega);have HGR:Hid (h.ra=some ⟨gr,0,none⟩):=hgr;have hA:Below w2.heap.size w2 (w2.alloc (Obj.cells #[QhW .i64 e.o.k,QhX e.o.t,QhS a e.o.r.length cc] 37)):=(Below.refl _ _).alloc (QhR _) _;have MA:=M2.step hA;have hqA:=hq2.below hA (QhR _);have hroA:=hro2.below hA (QhR _);have hvA:(w2.alloc (Obj.cells #[QhW .i64 e.o.k,QhX e.o.t,QhS a e.o.r.length cc] 37)).ownsRow B 37 3 (.slice h.oa h.os.length h.ocap) h.os.length (h.os.flatMap Ob.cs):=hqA.ob;have hsA:B≤(w2.alloc (Obj.cells #[QhW .i64 e.o.k,QhX e.o.t,QhS a e.o.r.length cc] 37)).heap.size:=Nat.le_trans (Nat.le_trans hB hB2) hA.size
     have HEND:Hid (∀v' w3,w3.ownsRow B 37 3 v' (h.os.length+1) (h.os.flatMap Ob.cs++ [QhW .i64 e.o.k,QhX e.o.t,QhS a e.o.r.length cc])→(w2.alloc (Obj.cells #[QhW .i64 e.o.k,QhX e.o.t,QhS a e.o.r.length cc] 37)).grownBy w3 (QhS h.oa h.os.length h.ocap).ownBlock→
      ∃a' cap,v'=.slice a' (h.os.length+1) cap∧Bx3 w w3 h e∧Md B T w w3∧Qk w3 B {h with oa:=a',ocap:=cap,os:=h.os++ [⟨e.o.k,e.o.t,a,cc,e.o.r.map (rootP h.rs)⟩]}∧OkC {h with oa:=a',ocap:=cap,os:=h.os++ [⟨e.o.k,e.o.t,a,cc,e.o.r.map (rootP h.rs)⟩],rs:=h.rs.set e.to.toNat (h.os.length:Int)}):=fun v' w3 hown hgr=>by
      have ho:Qw w3 B v' (h.os++ [⟨e.o.k,e.o.t,a,cc,e.o.r.map (rootP h.rs)⟩]):=by unfold Qw;simpa[Ob.cs]using hown
      obtain⟨a',cap,ev,-,-⟩:=ho.form;have ev':v'=.slice a' (h.os.length+1) cap:=by simpa using ev
      subst ev;have hrv:(⟨e.o.k,e.o.t,a,cc,e.o.r.map (rootP h.rs)⟩:Ob).rv=.slice a e.o.r.length cc:=by simp[Ob.rv]
      have hlow:∀k,(QhS a e.o.r.length cc).ownBlock=some k→w.heap.size≤k:=fun k q=>(hroA.lt k q).1;refine⟨a',cap,ev',⟨MA.b.bh.grown hgr (Qs hvA MA.b.bh (by decide)),MA.b.bv.grown hgr (Qs hvA MA.b.bv (by decide)),MA.b.br.grown hgr (Qs hvA MA.b.br (by decide))⟩,(Md.of MA.be hB).grown hgr (fun k q=>⟨(hvA.lt k q).1,Or.inl (hT.o k q)⟩) hsA,hqA.growO hgr ho (by rw[hrv];exact hroA.base hB) (fun i hi=>by rw[hrv];exact Kl (hq.rs i hi) (QhR _) hlow) (by rw[hrv];exact(Kl hq.ro (QhR _) hlow).symm),c.make (o:=⟨e.o.k,e.o.t,a,cc,e.o.r.map (rootP h.rs)⟩) HOB.out (by omega) _ a' cap⟩
     have hl1:h.os.length+1≤maxLen:=by unfold maxLen;omega
     have hl2:(h.os.length+1)*48≤140737488355328:=by omega
     clear hA MA hqA hroA hf hfull;go_wp2_with (at_builtin;refine wpList_append_own_at _ rfl _ _ 23 rfl B 37 i0 _ 3 48 ((Cut.under_eq 23).trans Tryz.underlying23) hi hz0 hz1 hz2 rfl (by decide) _ _ _ rfl hvA ⟨w2.heap.size,0,none⟩ 1 1 [QhW .i64 e.o.k,QhX e.o.t,QhS a e.o.r.length cc] rfl rfl (Uz ⟨e.o.k,e.o.t,a,cc,e.o.r⟩ _) (Ob.one ⟨e.o.k,e.o.t,a,cc,e.o.r⟩) hl1 hl2 hsA ?_);intro v' w3 hown hgrw _ _;obtain⟨a',cap,rfl,b3,hB3,hq3,c3⟩:=HEND.out v' w3 hown hgrw;have HQ3:Hid (Qk w3 B {h with oa:=a',ocap:=cap,os:=h.os++ [⟨e.o.k,e.o.t,a,cc,e.o.r.map (rootP h.rs)⟩]}):=hq3
     have hgl:gr<w.heap.size:=by
      have:=hq.ro;rw[hgr]at this;exact(this.lt gr rfl).2
     have hgB:B≤gr:=by
      have:=hq.ro;rw[hgr]at this;exact(this.lt gr rfl).1
     have hro3:Qa w3 B (.slice (some ⟨gr,0,none⟩) h.rs.length h.rcap) h.rs:=by
      have:=hq3.ro;simp only[hgr]at this;exact this
     have htl:e.to.toNat<h.rs.length:=by omega
     have q0:=hro3.at htl;have q1:=hro3.free e.to.toNat;have k4:Qf 27 w3 (w3.setCell ⟨w.heap.size,0,none⟩ (.slice a' (h.os.length+1) cap)):=Qf.set b3.bh 0 _;have hq5:=(hq3.keep k4).setRoot (g:=gr) hgr e.to.toNat (h.os.length:Int);have n1:w.heap.size≠gr:=by omega
     have bh5:=(b3.bh.store 0 (.slice a' (h.os.length+1) cap)).other ⟨gr,e.to.toNat,none⟩ (.int .i64 (h.os.length:Int)) n1;have bv5:=(b3.bv.other ⟨w.heap.size,0,none⟩ (.slice a' (h.os.length+1) cap) (by dsimp only;omega)).other ⟨gr,e.to.toNat,none⟩ (.int .i64 (h.os.length:Int)) (by dsimp only;omega);have br5:=(b3.br.other ⟨w.heap.size,0,none⟩ (.slice a' (h.os.length+1) cap) (by dsimp only;omega)).other ⟨gr,e.to.toNat,none⟩ (.int .i64 (h.os.length:Int)) (by dsimp only;omega);have hgT:gr<T:=hT.r gr (by rw[hgr];rfl);have hB5:=(hB3.set (p:=⟨w.heap.size,0,none⟩) hB (Or.inr (QhR _)) (.slice a' (h.os.length+1) cap)).set (p:=⟨gr,e.to.toNat,none⟩) hgB (Or.inl hgT) (.int .i64 (h.os.length:Int))
     have hro5:Qa ((w3.setCell ⟨w.heap.size,0,none⟩ (.slice a' (h.os.length+1) cap)).setCell ⟨gr,e.to.toNat,none⟩ (.int .i64 (h.os.length:Int))) B (.slice (some ⟨gr,0,none⟩) h.rs.length h.rcap) (h.rs.set e.to.toNat (h.os.length:Int)):=by
      have:=hq5.ro;simp only[hgr,List.length_set]at this;exact this
     have q5:=hro5.at (k:=e.to.toNat) (by simpa using htl);rw[List.getElem_set_self]at q5;have f5:=b3.bh.free 0;clear hown hgrw HEND hvA o0 o1 o2 x0 x1 x2 x3 y0 y1 y2 y3 y4 y5 y6 r0 r1 r2 r3 f0 f1 f2 f3;obtain⟨⟨x0,x1,x2,x3⟩,⟨y0,y1,y2,y3,y4,y5,y6⟩,⟨r0,r1,r2,r3⟩,f0,f1,f2,f3⟩:=b3.cells;obtain⟨s0,s1,s2,s3⟩:=Qb bh5;have t1:=bv5.cell 1;simp only[List.getElem?_cons_zero,List.getElem?_cons_succ]at t1;have c5:=VE {h with oa:=a',ocap:=cap,os:=h.os++ [⟨e.o.k,e.o.t,a,cc,e.o.r.map (rootP h.rs)⟩],rs:=h.rs.set e.to.toNat (h.os.length:Int)} (h.os.length:Int) (((w3.setCell ⟨w.heap.size,0,none⟩ (.slice a' (h.os.length+1) cap)).setCell ⟨gr,e.to.toNat,none⟩ (.int .i64 (h.os.length:Int))).drew) (hq5.isIn.so.below ((Below.refl _ _).drew) (QhR _)) (fun i hi=>by have:=(c3.kind i hi).1;omega) (by simp;omega);simp only[Hp.v,List.length_set,List.length_append,List.length_cons,List.length_nil,hgr]at c5
     have HB5:Hid (∀w6,Below ((w3.setCell ⟨w.heap.size,0,none⟩ (.slice a' (h.os.length+1) cap)).setCell ⟨gr,e.to.toNat,none⟩ (.int .i64 (h.os.length:Int))).drew.heap.size ((w3.setCell ⟨w.heap.size,0,none⟩ (.slice a' (h.os.length+1) cap)).setCell ⟨gr,e.to.toNat,none⟩ (.int .i64 (h.os.length:Int))).drew w6→(fun(W':World)=>(W'.cell? ⟨w.heap.size,0,none⟩=some (.slice a' (h.os.length+1) cap)∧W'.cell? ⟨w.heap.size,1,none⟩=some (.slice (some ⟨gr,0,none⟩) h.rs.length h.rcap)∧W'.cell? ⟨w.heap.size,2,none⟩=some (.slice h.wa h.ws.length h.wcap)∧W'.cell? ⟨w.heap.size,3,none⟩=some (.slice h.da h.ds.length h.dcap))∧W'.cell? ⟨w.heap.size+1,1,none⟩=some (.int .i64 e.to)∧W'.cell? ⟨gr,e.to.toNat,none⟩=some (.int .i64 (h.os.length:Int))) w6∧Blk w6 (w.heap.size+1+1) [QhS none 0 0,QhS none 0 0,QhS none 0 0,QhS none 0 0] 27∧Md B T w w6∧Qk w6 B {h with oa:=a',ocap:=cap,os:=h.os++ [⟨e.o.k,e.o.t,a,cc,e.o.r.map (rootP h.rs)⟩],rs:=h.rs.set e.to.toNat (h.os.length:Int)}):=fun w6 hb6=>by
      have hb6':Below ((w3.setCell ⟨w.heap.size,0,none⟩ (.slice a' (h.os.length+1) cap)).setCell ⟨gr,e.to.toNat,none⟩ (.int .i64 (h.os.length:Int))).heap.size ((w3.setCell ⟨w.heap.size,0,none⟩ (.slice a' (h.os.length+1) cap)).setCell ⟨gr,e.to.toNat,none⟩ (.int .i64 (h.os.length:Int))) w6:=((Below.refl _ _).drew).trans hb6;have bh6:=bh5.step hb6';have bv6:=bv5.step hb6';have qq6:=(hro5.below hb6' (QhR _)).at (k:=e.to.toNat) (by simpa using htl);rw[List.getElem_set_self]at qq6;refine⟨⟨⟨bh6.cell 0,?_,bh6.cell 2,bh6.cell 3⟩,bv6.cell 1,qq6⟩,br5.step hb6',hB5.step hb6' hB,hq5.below hb6' (QhR _)⟩;have:=bh6.cell 1;rw[hgr]at this;exact this
     have HS7:Hid (∀w6:World,(fun(W':World)=>(W'.cell? ⟨w.heap.size,0,none⟩=some (.slice a' (h.os.length+1) cap)∧W'.cell? ⟨w.heap.size,1,none⟩=some (.slice (some ⟨gr,0,none⟩) h.rs.length h.rcap)∧W'.cell? ⟨w.heap.size,2,none⟩=some (.slice h.wa h.ws.length h.wcap)∧W'.cell? ⟨w.heap.size,3,none⟩=some (.slice h.da h.ds.length h.dcap))∧W'.cell? ⟨w.heap.size+1,1,none⟩=some (.int .i64 e.to)∧W'.cell? ⟨gr,e.to.toNat,none⟩=some (.int .i64 (h.os.length:Int))) w6→(fun(W':World)=>(W'.cell? ⟨w.heap.size,0,none⟩=some (.slice a' (h.os.length+1) cap)∧W'.cell? ⟨w.heap.size,1,none⟩=some (.slice (some ⟨gr,0,none⟩) h.rs.length h.rcap)∧W'.cell? ⟨w.heap.size,2,none⟩=some (.slice h.wa h.ws.length h.wcap)∧W'.cell? ⟨w.heap.size,3,none⟩=some (.slice h.da h.ds.length h.dcap))∧W'.cell? ⟨w.heap.size+1,1,none⟩=some (.int .i64 e.to)∧W'.cell? ⟨gr,e.to.toNat,none⟩=some (.int .i64 (h.os.length:Int))) ((((w6.setCell ⟨w.heap.size+1+1,0,none⟩ (.slice a' (h.os.length+1) cap)).setCell ⟨w.heap.size+1+1,1,none⟩ (.slice (some ⟨gr,0,none⟩) h.rs.length h.rcap)).setCell ⟨w.heap.size+1+1,2,none⟩ (.slice h.wa h.ws.length h.wcap)).setCell ⟨w.heap.size+1+1,3,none⟩ (.slice h.da h.ds.length h.dcap))):=fun w6 hs=>by
      have sc:∀(p:Addr) (u:Value),p.block≠w.heap.size+1+1→w6.cell? p=some u→((((w6.setCell ⟨w.heap.size+1+1,0,none⟩ (.slice a' (h.os.length+1) cap)).setCell ⟨w.heap.size+1+1,1,none⟩ (.slice (some ⟨gr,0,none⟩) h.rs.length h.rcap)).setCell ⟨w.heap.size+1+1,2,none⟩ (.slice h.wa h.ws.length h.wcap)).setCell ⟨w.heap.size+1+1,3,none⟩ (.slice h.da h.ds.length h.dcap)).cell? p=some u:=fun p u hp hc=>by
       rw[QhY (Below.heap_setCell _ _ _ _ hp),QhY (Below.heap_setCell _ _ _ _ hp),QhY (Below.heap_setCell _ _ _ _ hp),QhY (Below.heap_setCell _ _ _ _ hp)];exact hc
      have p1:w.heap.size≠w.heap.size+1+1:=by omega
      have p2:w.heap.size+1≠w.heap.size+1+1:=by omega
      have p3:gr≠w.heap.size+1+1:=by omega
      exact⟨⟨sc _ _ p1 hs.1.1,sc _ _ p1 hs.1.2.1,sc _ _ p1 hs.1.2.2.1,sc _ _ p1 hs.1.2.2.2⟩,sc _ _ p2 hs.2.1,sc _ _ p3 hs.2.2⟩
     rw[hgr]at x1 s1;clear hq5 bh5 bv5 br5 hB5 hro5 hro3 hq3 k4 b3 hB3 M2 hq2 hBB hro2;go_wp2_with fail;go_region_held3 (fun(W':World)=>(W'.cell? ⟨w.heap.size,0,none⟩=some (.slice a' (h.os.length+1) cap)∧W'.cell? ⟨w.heap.size,1,none⟩=some (.slice (some ⟨gr,0,none⟩) h.rs.length h.rcap)∧W'.cell? ⟨w.heap.size,2,none⟩=some (.slice h.wa h.ws.length h.wcap)∧W'.cell? ⟨w.heap.size,3,none⟩=some (.slice h.da h.ds.length h.dcap))∧W'.cell? ⟨w.heap.size+1,1,none⟩=some (.int .i64 e.to)∧W'.cell? ⟨gr,e.to.toNat,none⟩=some (.int .i64 (h.os.length:Int))) (first|(refine⟨⟨?_,?_,?_,?_⟩,?_,?_⟩<;>with_reducible assumption)|go_keep)
      (first
        |(go_at_call 123;refine c5.mono ?_;rintro en w6 ⟨sx,rfl,hb6⟩;obtain⟨⟨⟨m0,m1,m2,m3⟩,m4,m5⟩,br6,hB6,hq6⟩:=HB5.out w6 hb6;obtain⟨u0,u1,u2,u3⟩:=Qb br6;obtain⟨v0,v1,v2,v3⟩:=Qo br6;obtain⟨⟨d0,d1,d2,d3⟩,d4,d5⟩:=HS7.out w6 ⟨⟨m0,m1,m2,m3⟩,m4,m5⟩))
     all_goals
      obtain⟨hqE,hbE,z0,z1,z2,z3⟩:=Jx br6 hq6 hB6 (by omega) (by omega) (.slice a' (h.os.length+1) cap) (.slice (some ⟨gr,0,none⟩) h.rs.length h.rcap) (.slice h.wa h.ws.length h.wcap) (.slice h.da h.ds.length h.dcap) (by simp) (by simp[hgr]) rfl rfl;clear br6 hq6 hB6 HB5 HS7 c5;go_wp2;refine bodyPost_ret (v:=.tuple #[Hp.v {h with oa:=a',ocap:=cap,os:=h.os++ [⟨e.o.k,e.o.t,a,cc,e.o.r.map (rootP h.rs)⟩],rs:=h.rs.set e.to.toNat (h.os.length:Int)},.string sx]) ?_ rfl ⟨_,_,rfl,c3,hqE,hbE⟩;simp[results,Tryz.results121,go_sem,z0,z1,z2,z3,Hp.v,hgr]
section
variable {P:Program} {ops:Array Oper} {Q:Exit→Act→World→Prop} {md:Region.Mode} {C:World→Prop} {m:Nat}
def JV (P:Program)(md:Region.Mode)(ops:Array Oper)(Q:Exit→Act→World→Prop)(m:Nat)(C:World→Prop):Nat→Array Bool→Act→World→Prop
 |0,listed,a,w=>Region.ready md ops listed=[]∧Q .normal a w
 |fuel+1,listed,a,w=>
  (Region.ready md ops listed=[]→Q .normal a w)∧
  ∀i∈Region.ready md ops listed,wpOp P ops Q i (fun a' w'=>((listed.setIfInBounds i true).getD m true=false→C w')∧JV P md ops Q m C fuel (listed.setIfInBounds i true) a' w') a w
theorem QbT:∀(fuel:Nat) (listed:Array Bool) (a:Act) (w:World),JV P md ops Q m C fuel listed a w→wpAny P md ops Q fuel listed a w
 |0,_,_,_,h=>h
 |fuel+1,_,_,_,h=>⟨h.1,fun i hi=>wpOp_mono (fun a' w' h'=>QbT fuel _ a' w' h'.2) (h.2 i hi)⟩
theorem QhP {i:Nat}{oi om:Oper}{v:Value}(hi:ops[i]? =some oi)(hom:ops[m]? =some om)(hdep:∃e∈om.after,Region.binds md e=true∧e.on=i)(hsel:∀(j:Nat) (o:Oper) cs b,ops[j]? =some o→o.op≠.select cs b)
 (hQ:∀c a w,Q (.panic c) (a.put oi.dst v) w→Q (.panic c) a w)(hmi:m≠i):
 ∀(fuel:Nat) (listed:Array Bool) (a:Act) (w:World),
  (∀j oj,ops[j]? =some oj→j≠i→listed.getD j true=false→(∀e∈oj.after,Region.binds md e=true→e.on≠i)→oi.apart ops oj=true)→
  i∈Region.ready md ops listed→listed.getD m true=false→YieldsIf P ops C oi v a→C w→
  JV P md ops Q m C fuel (listed.setIfInBounds i true) (a.put oi.dst v) w→JV P md ops Q m C (fuel+1) listed a w:=by
 intro fuel
 induction fuel with
 |zero=>
  intro listed a w _ hr _ hy hS H;refine⟨fun h=>(by rw[h]at hr;cases hr),fun j hj=>?_⟩;by_cases hji:j=i
  ·subst hji;exact hy.wpOp hi hS ⟨fun _=>hS,H⟩
  ·have:=ready_mono hj hji;rw[H.1]at this
   cases this
 |succ fuel ih=>
  intro listed a w hfree hr hml hy hS H;refine⟨fun h=>(by rw[h]at hr;cases hr),fun j hj=>?_⟩;by_cases hji:j=i
  ·subst hji;exact hy.wpOp hi hS ⟨fun _=>hS,H⟩
  ·have h1:=H.2 j (ready_mono hj hji);obtain⟨hjun,oj,hoj,hall⟩:=mem_ready.1 hj
   have hnot:∀e∈oj.after,Region.binds md e=true→e.on≠i:=fun e he hb heq=>by
    have h1:=hall e he hb;have h0:=(mem_ready.1 hr).1;rw[heq]at h1;rcases Nat.lt_or_ge i listed.size with h'|h'
    ·simp[h']at h0 h1;rw[h0]at h1;cases h1
    ·simp[Array.getElem?_eq_none h']at h1
   have hjm:j≠m:=fun q=>by
    subst q;rw[hom]at hoj
    cases hoj
    obtain⟨e,he,hb,he'⟩:=hdep;exact hnot e he hb he'
   have h2:=wpOp_putIf hoj (hfree j oj hoj hji hjun hnot) (fun cs b=>hsel i oi cs b hi) (fun cs b=>hsel j oj cs b hoj) hQ hy h1
   have hfree':∀k ok,ops[k]? =some ok→k≠i→(listed.setIfInBounds j true).getD k true=false→
    (∀e∈ok.after,Region.binds md e=true→e.on≠i)→oi.apart ops ok=true:=fun k ok hk hki hun hno=>by
    refine hfree k ok hk hki ?_ hno;by_cases hjk:j=k
    ·subst hjk;exact hjun
    ·rw[getD_set_ne true hjk]at hun;exact hun
   have hml':(listed.setIfInBounds j true).getD m true=false:=by rw[getD_set_ne true hjm];exact hml
   have hml'':((listed.setIfInBounds i true).setIfInBounds j true).getD m true=false:=by rw[getD_set_ne true hjm,getD_set_ne true (Ne.symm hmi)];exact hml
   refine wpOp_mono (fun a' w' h3=>⟨fun _=>h3.2.1 hml'',ih (listed.setIfInBounds j true) a' w' hfree' (ready_mono hr (Ne.symm hji)) hml' h3.1 (h3.2.1 hml'') ?_⟩) h2;rw[Array.setIfInBounds_comm _ _ hji];exact h3.2.2
theorem Q3 {i:Nat}{oi om:Oper}{v:Value}{fuel:Nat}{listed:Array Bool}{a:Act}{w:World}(d:Nat)(hi:ops[i]? =some oi)(hd:oi.dst=some d)(hom:ops[m]? =some om)(hdep:(om.after.any fun e=>Region.binds md e&&e.on ==i)=true)
 (hs:Region.noSelect ops=true)(hf:Region.free md ops listed i=true)(hr:(Region.ready md ops listed).contains i=true)(hml:listed.getD m true=false)(hmi:(m ==i)=false)
 (hQ:∀c a w,Q (.panic c) (a.put oi.dst v) w→Q (.panic c) a w)(hy:YieldsIf P ops C oi v a)(hS:C w)
 (h:JV P md ops Q m C fuel (listed.setIfInBounds i true) {a with tmps:=a.tmps.setIfInBounds d v} w):JV P md ops Q m C (fuel+1) listed a w:=by
 refine QhP hi hom ?_ (Region.noSelect_spec hs) hQ (by simpa using hmi) fuel listed a w (Region.free_spec hi hf) (by simpa using hr) hml hy hS (by rw[hd];exact h);rw[Array.any_eq_true']at hdep;obtain⟨e,he,hb⟩:=hdep;simp only[Bool.and_eq_true,beq_iff_eq]at hb;exact⟨e,he,hb.1,hb.2⟩
def QP (P:Program)(md:Region.Mode)(ops:Array Oper)(Q:Exit→Act→World→Prop)(m:Nat)(C:World→Prop)(fuel:Nat)(listed:Array Bool)(a:Act)(w:World)(rs:List Nat):Prop:=
 ∀i∈rs,wpOp P ops Q i (fun a' w'=>((listed.setIfInBounds i true).getD m true=false→C w')∧JV P md ops Q m C fuel (listed.setIfInBounds i true) a' w') a w
theorem QP.nil {fuel:Nat}{listed:Array Bool}{a:Act}{w:World}:QP P md ops Q m C fuel listed a w []:=fun _ h=>by cases h
theorem QP.cons {fuel:Nat}{listed:Array Bool}{a:Act}{w:World}{i:Nat}{o:Oper}{rs:List Nat}(ho:ops[i]? =some o)
 (h:∀K':Act→World→Prop,Shut (∀a w,C w→JV P md ops Q m C fuel (listed.setIfInBounds i true) a w→K' a w)→if Region.wanted o (yielded ops a.tmps)=true then Oper.wp P o a w K' Q else K' (a.put o.dst undef) w)
 (hs:QP P md ops Q m C fuel listed a w rs):QP P md ops Q m C fuel listed a w (i::rs):=fun j hj=>by
 rcases List.mem_cons.1 hj with rfl|hj
 ·exact wpOp_step ho (fun K' hK=>h K' (fun a w hS hW=>hK a w ⟨fun _=>hS,hW⟩))
 ·exact hs j hj
theorem QP.last {fuel:Nat}{listed:Array Bool}{a:Act}{w:World}{o:Oper}{rs:List Nat}(ho:ops[m]? =some o)
 (h:∀K':Act→World→Prop,Shut (∀a w,JV P md ops Q m C fuel (listed.setIfInBounds m true) a w→K' a w)→if Region.wanted o (yielded ops a.tmps)=true then Oper.wp P o a w K' Q else K' (a.put o.dst undef) w)
 (hs:QP P md ops Q m C fuel listed a w rs):QP P md ops Q m C fuel listed a w (m::rs):=fun j hj=>by
 rcases List.mem_cons.1 hj with rfl|hj
 ·refine wpOp_step ho (fun K' hK=>h K' (fun a w hW=>hK a w ⟨fun q=>?_,hW⟩));exfalso;simp[Array.getD_eq_getD_getElem?,Array.getElem?_setIfInBounds]at q;split at q<;>simp_all
 ·exact hs j hj
theorem JB {rs:List Nat}{fuel:Nat}{listed:Array Bool}{a:Act}{w:World}(hr:Region.ready md ops listed=rs)(hne:rs≠[])
 (h:QP P md ops Q m C fuel listed a w rs):JV P md ops Q m C (fuel+1) listed a w:=⟨fun h0=>absurd (hr▸h0) hne,hr▸h⟩
theorem PN {listed:Array Bool}{a:Act}{w:World}(hr:Region.ready md ops listed=[])(h:Q .normal a w):∀fuel,JV P md ops Q m C fuel listed a w
 |0=>⟨hr,h⟩
 |_+1=>⟨fun _=>h,by rw[hr];simp⟩
theorem PQ {id:Nat}{a:Act}{w:World}(hm:P.follows .mixedOrders=true)(m:Nat)(C:World→Prop)
 (h:JV P .any ops Q m C ops.size (Array.replicate ops.size false) a w.drew):(Code.region id ops true).wp P Q a w:=
 wp_region_any hm (QbT _ _ _ _ h)
end
end
end Go.Proofs.YtcpnkpogebjieaaGreat
