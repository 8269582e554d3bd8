/- The law on sameness: behind its call of MemCollect. -/
import Derived.Test.YtcpnkpogebjieaaGreatS43Jc0
import Derived.Test.YtcpnkpogebjieaaGreatS52Je
import Derived.Conc.CompanyCalls
open List renaming setIfInBounds_toArray→QhR,set_cons_zero→QhS,set_cons_succ→QhT,getElem?_cons_zero→QhV,getElem?_cons_succ→QhW
open Nat renaming le_refl→QhU
set_option maxRecDepth 100000
set_option maxHeartbeats 8000000
namespace Go.Proofs.YtcpnkpogebjieaaGreat
namespace Co
open Go.RowKit
set_option linter.unusedSimpArgs false
structure Sm3 (b3 b6:Nat) (a:Act):Prop where
 df:a.defers=[]
 sz:a.tmps.size=72
 t3:a.tmps[3]? =some (.pointer (some ⟨b3,0,none⟩))
 t6:a.tmps[6]? =some (.pointer (some ⟨b6,0,none⟩))
theorem hcells {w:World}{B t:Nat}{h:Hp}(k:Blk w B (Hp.cells h) t):w.cell? ⟨B,0,none⟩=some (.slice h.oa h.os.length h.ocap)∧w.cell? ⟨B,1,none⟩=some (.slice h.ra h.rs.length h.rcap)∧w.cell? ⟨B,2,none⟩=some (.slice h.wa h.ws.length h.wcap)∧w.cell? ⟨B,3,none⟩=some (.slice h.da h.ds.length h.dcap):=Qb k
section
variable {a x:Hp} {b3 b6:Nat}
theorem Qe5 (f:Nat→Value)(t3:f 3=.pointer (some ⟨b3,0,none⟩))(t6:f 6=.pointer (some ⟨b6,0,none⟩))(E:World)(k3:Blk E b3 (Hp.cells a) 27)(hf:Fit E a):
 chain Cut.prog (fun c a' w1=>c=sdG∧Sm3 b3 b6 a'∧(okP a.p=true→∀p∈a.ws,p.2∈reachP a.p)∧Below E.heap.size E w1) (SdR E) 1 sdF ⟨A72 f,[]⟩ E:=by
 have hw:=hf.small.w;unfold A72;rw[t3,t6];clear t3 t6;simp only[sdF,sdC,sdB,Tryz.f5,chain];go_wp2;go_loopw [8] (fun i wr=>∃k:Nat,k≤a.ws.length∧i=.int .i64 k∧(okP a.p=true→∀j (hj:j<a.ws.length),j<k→a.ws[j].2∈reachP a.p)∧Below E.heap.size E wr) (fun i _=>a.ws.length-(intOf i).toNat)
 case atStart=>exact⟨0,Nat.zero_le _,rfl,fun _ j _ hj=>by omega,Below.refl _ _⟩
 case round=>
  obtain⟨k,hk,rfl,hq,hb⟩:=hrel;have HQ:Hid (okP a.p=true→∀j (hj:j<a.ws.length),j<k→a.ws[j].2∈reachP a.p):=hq;clear hq;obtain⟨x0,x1,x2,x3⟩:=hcells (k3.below hb k3.lt);by_cases hlt:k<a.ws.length
  ·have hi1:(k:Int)<(a.ws.length:Int):=by omega
   have hbd:=hb.drew;have hfd:=hf.below hbd (QhU _);have c1:=Y5 a wr.drew hfd.isIn hfd.small hfd.txt;simp only[Hp.v]at c1;generalize hVV:(okP a.p&& !decide (a.ws[k].2∈reachP a.p))=VV;have HVV:Hid ((okP a.p&& !decide (a.ws[k].2∈reachP a.p))=VV):=hVV;clear hVV;go_wp2_with fail;go_cut [65]from 52 to 64 (fun s wx=>s=.bool VV∧Below E.heap.size E wx)
   case first=>
    obtain hok|hok:okP a.p=true∨okP a.p=false:=by cases okP a.p<;>simp
    ·have c:=YZ hok;rw[hok]at c1
     have HP:Hid (VV= !decide (a.ws[k].2∈reachP a.p)):=by
      have:=HVV.out;rw[hok,Bool.true_and]at this;exact this.symm
     clear hok HVV HQ;obtain⟨bw,ow,ea,hbw,e1,e2⟩:=hf.isIn.sw.get hlt
     have HS:Hid (∀W,Below E.heap.size E W→(W.cell? ⟨b3,0,none⟩=some (.slice a.oa a.os.length a.ocap)∧W.cell? ⟨b3,1,none⟩=some (.slice a.ra a.rs.length a.rcap)∧W.cell? ⟨b3,2,none⟩=some (.slice (some ⟨bw,ow,none⟩) a.ws.length a.wcap)∧W.cell? ⟨b3,3,none⟩=some (.slice a.da a.ds.length a.dcap))∧W.cell? ⟨bw,ow+k*2+1,none⟩=some (.int .i64 a.ws[k].2)):=fun W hW=>by
      obtain⟨z0,z1,z2,z3⟩:=hcells (k3.below hW k3.lt);rw[ea]at z2;exact⟨⟨z0,z1,z2,z3⟩,(hW.cell (p:=⟨bw,ow+k*2+1,none⟩) hbw).trans e2⟩
     have HC2:Hid (∀W,Below E.heap.size E W→Calls Cut.prog 15 #[.agg #[.slice a.oa a.os.length a.ocap,.slice a.ra a.rs.length a.rcap,.slice (some ⟨bw,ow,none⟩) a.ws.length a.wcap,.slice a.da a.ds.length a.dcap]] W fun e w'=>∃(v':Value) (L:List Int),e=.returned v'∧Qa w' W.heap.size v' L∧Below W.heap.size W w'∧L.length≤68∧∀z,z∈L↔z∈reachP a.p):=fun W hW=>by
      have:=QhC a W (reachP a.p) (hf.isIn.below hW (QhU _)) c c.comes;simp only[Hp.v,ea]at this;exact this
     simp only[ea]at c1;clear x0 x1 x2 x3 e1 e2 ea;obtain⟨⟨x0,x1,x2,x3⟩,e2⟩:=HS.out wr hb;generalize a.ws[k].2=po at *
     go_region_with (first
      |(go_at_call 12;refine c1.mono ?_;rintro e w1 ⟨rfl,hb1⟩;have hB1:=hbd.trans (hb1.mono hbd.size);obtain⟨⟨u0,u1,u2,u3⟩,e3⟩:=HS.out w1 hB1;have c2:=HC2.out w1 hB1)
      |(go_at_call 15;refine c2.mono ?_;rintro e w2 ⟨v',L,rfl,hL,hb2,hl68,hiff⟩;obtain⟨la,lcap,rfl,hseg,-⟩:=hL.form;have hB2:=hB1.trans (hb2.mono hB1.size);obtain⟨⟨v0,v1,v2,v3⟩,e4⟩:=HS.out w2 hB2;have c3:=U8 la L.length lcap po L w2 rfl hseg (by unfold maxLen;omega);have HIFF:Hid (∀z,z∈L↔z∈reachP a.p):=hiff;clear hiff)
      |(go_at_call 16;refine c3.mono ?_;rintro e w3 ⟨rfl,rfl⟩))
     all_goals
      have hv:(!decide (po∈L))=VV:=by rw[HP.out,show decide (po∈L)=decide (po∈reachP a.p)from decide_eq_decide.2 (HIFF.out po)]
      rw[hv];clear c1 c2 c3 x0 x1 x2 x3 e2 u0 u1 u2 u3 e3 v0 v1 v2 v3 e4 hb1 hb2 hB1 hv;go_wp2;go_meet
      case rel=>exact⟨rfl,hB2⟩
    ·rw[hok]at c1
     have HP:Hid (VV=false):=by
      have:=HVV.out;rw[hok,Bool.false_and]at this;exact this.symm
     clear hok HVV HQ;have HS:Hid (∀W,Below E.heap.size E W→W.cell? ⟨b3,0,none⟩=some (.slice a.oa a.os.length a.ocap)∧W.cell? ⟨b3,1,none⟩=some (.slice a.ra a.rs.length a.rcap)∧W.cell? ⟨b3,2,none⟩=some (.slice a.wa a.ws.length a.wcap)∧W.cell? ⟨b3,3,none⟩=some (.slice a.da a.ds.length a.dcap)):=fun W hW=>hcells (k3.below hW k3.lt);refine wp_region_held_drew (S:=fun W=>W.cell? ⟨b3,0,none⟩=some (.slice a.oa a.os.length a.ocap)∧W.cell? ⟨b3,1,none⟩=some (.slice a.ra a.rs.length a.rcap)∧W.cell? ⟨b3,2,none⟩=some (.slice a.wa a.ws.length a.wcap)∧W.cell? ⟨b3,3,none⟩=some (.slice a.da a.ds.length a.dcap)) (by kernel_rfl) (HS.out _ hbd) (fun hS=>?_);clear x0 x1 x2 x3;refine tk 0 52 rfl rfl hS ?_;simp only[QhR,QhS,QhT];refine wpAnyH_ready (rs:=[1]) (by kernel_rfl) (by simp) ?_;refine AllReadyH.cons (o:=_) rfl (fun K hK=>?_) AllReadyH.nil;go_simp;refine c1.mono ?_;rintro e w1 ⟨rfl,hb1⟩;have hB1:=hbd.trans (hb1.mono hbd.size);refine hK.out _ _ (HS.out w1 hB1) (fun hS1=>?_);clear hK K
     try simp only[Act.put,List.getElem_toArray,List.getElem_cons_zero,List.getElem_cons_succ,QhR,QhS,QhT]
     refine tk 2 54 rfl rfl hS1 ?_;simp only[QhR,QhS,QhT];refine tku 3 55 rfl rfl hS1 ?_;simp only[QhR,QhS,QhT];refine tku 4 56 rfl rfl hS1 ?_;simp only[QhR,QhS,QhT];refine tku 5 57 rfl rfl hS1 ?_;simp only[QhR,QhS,QhT];refine tku 6 58 rfl rfl hS1 ?_;simp only[QhR,QhS,QhT];refine tku 7 59 rfl rfl hS1 ?_;simp only[QhR,QhS,QhT];refine tku 8 60 rfl rfl hS1 ?_;simp only[QhR,QhS,QhT];refine tku 9 61 rfl rfl hS1 ?_;simp only[QhR,QhS,QhT];refine tku 10 62 rfl rfl hS1 ?_;simp only[QhR,QhS,QhT];refine tku 11 63 rfl rfl hS1 ?_;simp only[QhR,QhS,QhT];refine tku 12 64 rfl rfl hS1 ?_;simp only[QhR,QhS,QhT];refine tk 13 65 rfl rfl hS1 ?_;simp only[QhR,QhS,QhT];refine wpAnyH_done (by kernel_rfl) ?_ _;obtain rfl:=HP.out;go_wp2;go_meet
     case rel=>exact⟨rfl,hB1⟩
   case rest=>
   clear c1 x0 x1 x2 x3 hbd hfd;obtain⟨rfl,hbc⟩:=hcut
   cases VV with
   |true=>
    go_wp2;exact⟨rfl,rfl,rfl,hbc⟩
   |false=>
    have HN:Hid (okP a.p=true→∀j (hj:j<a.ws.length),j<k+1→a.ws[j].2∈reachP a.p):=fun q j hj hl=>by
     by_cases e:j=k
     ·subst e;have:=HVV.out;rw[q,Bool.true_and]at this;simpa using this
     ·exact HQ.out q j hj (by omega)
    go_wp2;go_roundw
    case rel=>exact⟨k+1,by omega,by go_num,HN.out,hbc⟩
    case measure=>simp[intOf];omega
  ·have ek:k=a.ws.length:=by omega
   subst ek
   have HN:Hid (okP a.p=true→∀p∈a.ws,p.2∈reachP a.p):=fun q p hp=>by
    obtain⟨j,hj,e⟩:=List.getElem_of_mem hp;rw[←e];exact HQ.out q j hj hj
   clear HQ;go_wp2;exact⟨rfl,⟨rfl,rfl,rfl,rfl⟩,HN.out,hb⟩
theorem Qe6 (f:Nat→Value)(t3:f 3=.pointer (some ⟨b3,0,none⟩))(t6:f 6=.pointer (some ⟨b6,0,none⟩))(E:World)(k3:Blk E b3 (Hp.cells a) 27)(hf:Fit E a)(k6:Blk E b6 (Hp.cells x) 27)(hx:Fit E x)(hsame:Q8 a.p x.p↔okP a.p=true):
 sdG.wp Cut.prog (JQ (fun _ _=>False) (SdR E)) ⟨A72 f,[]⟩ E:=by
 have hbd:=(Below.refl E.heap.size E).drew
 have HS:Hid (∀r:Bool,(r=true↔Q8 a.p x.p)→r=okP a.p):=fun r hr=>by
  rw[Bool.eq_iff_iff];exact hr.trans hsame
 clear hsame;have heq:(okP a.p ==okP a.p)=true:=by simp
 have c1:=VB a x E.drew (hf.below hbd (QhU _)) (hx.below hbd (QhU _));simp only[Hp.v]at c1;obtain⟨x0,x1,x2,x3⟩:=hcells k3;obtain⟨y0,y1,y2,y3⟩:=hcells k6;unfold A72;rw[t3,t6];clear t3 t6;simp only[sdG,sdF,sdC,sdB,Tryz.f5];go_wp2_with fail
 go_region_with (first
  |(go_at_call 20;refine c1.mono ?_;rintro e w1 ⟨r,rfl,hr,hb1⟩;obtain rfl:=HS.out r hr;have hB1:=hbd.trans (hb1.mono hbd.size);obtain⟨u0,u1,u2,u3⟩:=hcells (k3.below hB1 k3.lt);have hf1:=hf.below hB1 (QhU _);have c2:=Y5 a w1 hf1.isIn hf1.small hf1.txt;simp only[Hp.v]at c2)
  |(go_at_call 12;refine c2.mono ?_;rintro e w2 ⟨rfl,hb2⟩))
 all_goals
  have hB2:=hB1.trans (hb2.mono hB1.size);go_wp2;exact⟨rfl,rfl,rfl,hB2⟩
end
end Co
namespace Co
open Go.Conc Go.ConcN Go.RowKit Go.Conc.Lib Go.ConcR.Gen
open Go.ConcR (DC0)
set_option linter.unusedSimpArgs false
def SdF (X0:Nat→Bool)(w0:World)(X:Nat→Bool)(g':Goroutine)(w:World):Prop:=
 ∃(T:Array Value) (b3 b6:Nat) (h x:Hp) (ms:List Int),T.size=72∧T[3]? =some (.pointer (some ⟨b3,0,none⟩))∧T[6]? =some (.pointer (some ⟨b6,0,none⟩))∧
  (okP h.p=false→x.p=([],[],[],[])∧ms=[])∧(okP h.p=true→∀yy mm,CoP h.p yy mm→yy=x.p∧mm=ms)∧g'=G ((base 5).at ⟨T,[]⟩ [.code sdF]) []∧
  LS X0 w0 X (fun E=>Blk E b3 (Hp.cells h) 27∧Fit E h∧Fit E x∧Blk E b6 (Hp.cells x) 27) w
def SdG (X0:Nat→Bool)(w0:World)(X:Nat→Bool)(g':Goroutine)(w:World):Prop:=
 ∃(T:Array Value) (b3 b6:Nat) (h x:Hp),T.size=72∧T[3]? =some (.pointer (some ⟨b3,0,none⟩))∧T[6]? =some (.pointer (some ⟨b6,0,none⟩))∧(Q8 h.p x.p↔okP h.p=true)∧g'=G ((base 5).at ⟨T,[]⟩ [.code sdG]) []∧
  LS X0 w0 X (fun E=>Blk E b3 (Hp.cells h) 27∧Fit E h∧Fit E x∧Blk E b6 (Hp.cells x) 27) w
theorem Qfk {h g:Hp}{zs:List Int}(hc:∀(i:Nat) (hi:i<g.os.length),g.os[i].r.length≤g.os[i].rcap)(o7:okP h.p=false→g.p=([],[],[],[])∧zs=[])(o8:okP h.p=true→∀yy mm,CoP h.p yy mm→yy=g.p∧mm=zs):∀E,Qj E g→Fit E g:=fun E hE=>by
 have c:OkC g:=by
  cases ho:okP h.p with
  |false=>exact YZ (by rw[(o7 ho).1];rfl)
  |true=>exact Qan (YZ ho) (o8 ho)
 exact c.fit hE hc
theorem Vi {f:Nat→Value}{v:Value}(i:Nat)(h:(A72 f)[i]? =some v)(hi:(A72 f)[i]? =some (f i)):f i=v:=by
 rw[hi]at h;exact Option.some.inj h
section
variable {X0 X X':Nat→Bool} {Ch:Nat}
theorem QgD {w0 wq:World}{T:Array Value}{b3:Nat}{h:Hp}(hT:T.size=72)(tq:T[3]? =some (.pointer (some ⟨b3,0,none⟩)))(hI:LS X0 w0 X (fun E=>Blk E b3 (Hp.cells h) 27∧Fit E h) wq){g:Hp}{gv:Value}{w:World}(ho:UG h X wq X' g gv w):
 Qv Tryz.prog X' Ch (SdF X0 w0 X') (G ((PB T).finish (.tuple #[Hp.v g,gv])) []) w:=by
 obtain⟨f,rfl⟩:=Vy T hT;unfold A72 at tq⊢;simp only[List.getElem?_toArray,QhV,QhW,Option.some.injEq]at tq;rw[tq];clear tq hT;obtain⟨M,zs,o1,o2,o3,o4,o5,o6,o7,o8⟩:=ho.res;obtain⟨ga,gcap,rfl,-⟩:=o2.form;have hgf:∀E,Qj E g→Fit E g:=Qfk o1.rs.cap o7 o8
 have hM:LS X0 w0 X' (fun E=>Blk E b3 (Hp.cells h) 27∧Fit E h∧Fit E g) w:=by
  have h1:=hI.mc ho;exact⟨h1.la,fun E E' o ⟨a1,a2,a3⟩=>⟨JP a1 o,JD a2 o,JD a3 o⟩,h1.p.1,h1.p.2,hgf _ (o1.same fun b hb=>Jj (o5 b hb)).isIn⟩
 clear o1 o2 o3 o4 o5 o6 hI ho hgf;obtain⟨goa,goc,gos,gra,grc,grs,gwa,gwc,gws,gda,gdc,gds⟩:=g;obtain⟨D0,hD0⟩:∃D0,D0=sdF:=⟨_,rfl⟩;rw[PB,Frame.finish_at,←hD0];simp only[VZ,sdC,sdB,Tryz.f5,List.getElem?_toArray,QhW,QhV,Option.bind_some];refine QL (n:=10) ?_;walk_nrm;u_op LS.rely hM;u_op LS.rely hM;u_op LS.rely hM;refine Goes.stop (fun w3 h3=>?_);replace hM:=LS.rely hM h3;clear h3;refine ZQ rfl (fun w4 h4=>?_);have hz:=ZW h4;replace hM:=LS.rely hM h4;clear h4;refine goes_oper_k rfl rfl (by decide) (fun K hK=>?_);go_simp;refine hK _ _ ⟨⟨by simp;omega,fun B hB e he=>?_⟩,?_⟩
 ·have hm:=mem_listed he;simp[go_sem]at hm
 clear hK K;have hN:=hM.alloc (m:=0) (Nat.zero_le _);clear hM hz;generalize w4.alloc (Obj.cells #[Value.slice none 0 0,Value.slice none 0 0,Value.slice none 0 0,Value.slice none 0 0] 27)=w5 at hN;generalize w4.heap.size=bq at hN;clear w4;refine ZQ rfl (fun w6 h6=>?_);have hz:=ZW h6;replace hN:=LT.rely hN h6;clear h6;have hl:=hN.k.lt;obtain⟨c0,c1,c2,c3⟩:=Qb hN.k;obtain⟨f0,f1,f2,f3⟩:=Qo hN.k;have bk:=(QR hN.k (.slice goa gos.length goc) (.slice gra grs.length grc) (.slice gwa gws.length gwc) (.slice gda gds.length gdc)).2;refine goes_oper_k rfl rfl (by decide) (fun K hK=>?_);simp only[Hp.v];go_simp;refine hK _ _ ⟨⟨by simp[World.setCell];omega,fun B hB e he=>?_⟩,?_⟩
 ·have hm:=mem_listed he;have hB':w6.heap.size≤B:=by simpa[World.setCell]using hB
  simp[go_sem,Hp.v,c0,c1,c2,c3,f0,f1,f2,f3]at hm;rcases hm with rfl|rfl|rfl|rfl<;>exact⟨hN.xb,by show bq<B;omega⟩
 clear hK K hz;replace hN:=hN.box bk (by simp[World.setCell]) (fun b hb=>by rw[Below.heap_setCell _ _ _ _ hb,Below.heap_setCell _ _ _ _ hb,Below.heap_setCell _ _ _ _ hb,Below.heap_setCell _ _ _ _ hb]) ⟨rfl,rfl⟩;generalize (((w6.setCell ⟨bq,0,none⟩ (.slice goa gos.length goc)).setCell ⟨bq,1,none⟩ (.slice gra grs.length grc)).setCell ⟨bq,2,none⟩ (.slice gwa gws.length gwc)).setCell ⟨bq,3,none⟩ (.slice gda gds.length gdc)=w10 at *;clear c0 c1 c2 c3 f0 f1 f2 f3 bk hl;refine QL (n:=10) ?_
 try walk_nrm
 u_op LT.rely hN;u_c stepG_region_end LT.rely hN;refine Goes.stop (fun w11 h11=>.stop ?_);replace hN:=LT.rely hN h11;obtain⟨⟨d1,d2,d3⟩,d4,-⟩:=hN.done;rw[hD0];exact⟨_,b3,bq,h,_,zs,rfl,rfl,rfl,o7,o8,rfl,⟨hN.la,fun E E' o ⟨a1,a2,a3,a4⟩=>⟨JP a1 o,JD a2 o,JD a3 o,JP a4 o⟩,d1,d2,d3,d4⟩⟩
theorem QgC {w0:World}{g':Goroutine}{w:World}(hD:SdF X0 w0 X g' w):Qv Tryz.prog X Ch (fun g w1=>SdG X0 w0 X g w1∨Vf X0 w0 X g w1) g' w:=by
 obtain⟨T,b3,b6,h,x,ms,hT,t3,t6,an1,an2,rfl,hI⟩:=hD;have hok:QQ Tryz.progTables sdF=true:=by kernel_rfl
 have hbig:=hI.la.big;refine Kx 1 hI.la.sn (KV rfl hok) (R:=fun c a w2=>∃u:World,(u.heap=(emW X w).heap∧OO u w)∧(c=sdG∧Sm3 b3 b6 a∧(okP h.p=true→∀p∈h.ws,p.2∈reachP h.p)∧Below u.heap.size u w2)) (Rr:=fun a w2=>∃u:World,(u.heap=(emW X w).heap∧OO u w)∧SdR u a w2) (fun t d=>?_) (fun c' a w2 w2' hE hS hK hFO hR=>?_) (fun a todo w2 w2' hE hS hK hFO hR=>?_)
 ·have hu:On (emW X w) {emW X w with tape:=t,drawn:=d}:=Qaz t d;obtain⟨p1,p2,p3,p4⟩:=hI.p;obtain⟨f,rfl⟩:=Vy T hT;have c1:=Qe5 f (Vi 3 t3 rfl) (Vi 6 t6 rfl) {emW X w with tape:=t,drawn:=d} (JP p1 hu) (JD p2 hu);exact Vn c1 (fun c a _ hq=>⟨{emW X w with tape:=t,drawn:=d},⟨rfl,rfl,rfl⟩,hq⟩) (fun a w1 hq=>⟨{emW X w with tape:=t,drawn:=d},⟨rfl,rfl,rfl⟩,hq⟩)
 ·obtain⟨u,⟨hu,huo⟩,rfl,s,hall,hB⟩:=hR;obtain⟨T,D⟩:=a;have e1:D=[]:=s.df;subst e1;have us:u.heap.size=w.heap.size:=by rw[hu,QF]
  have ou:On (emW X w) u:=⟨by rw[hu];exact QhU _,fun b _=>by rw[hu]⟩;have o2:On (emW X w) (emW X w2):=ou.trans ((On.of hB (QhU _)).trans (Pn hE));obtain⟨p1,p2,p3,p4⟩:=hI.p;refine .stop (.inl ⟨T,b3,b6,h,x,s.sz,s.t3,s.t6,⟨fun q=>q.1,fun q=>Qgw (YZ q) (an2 q) (hall q)⟩,rfl,⟨hI.la.piece rfl hu huo hE hS hK (hB.mono (by rw[us];exact hbig)),fun E E' o ⟨a1,a2,a3,a4⟩=>⟨JP a1 o,JD a2 o,JD a3 o,JP a4 o⟩,JP p1 o2,JD p2 o2,JD p3 o2,JP p4 o2⟩⟩)
 ·obtain⟨u,⟨hu,huo⟩,r1,r2,r3,hB⟩:=hR;have us:u.heap.size=w.heap.size:=by rw[hu,QF]
  exact .stop (.inr ⟨_,rfl,rfl,r1,rfl,rfl,by
   show a.tmps.getD 2 undef=_;rw[Array.getD_eq_getD_getElem?,r3]
   rfl,hI.la.piece rfl hu huo hE hS hK (hB.mono (by rw[us];exact hbig))⟩)
theorem QgB {w0:World}{g':Goroutine}{w:World}(hD:SdG X0 w0 X g' w):Qv Tryz.prog X Ch (Vf X0 w0 X) g' w:=by
 obtain⟨T,b3,b6,h,x,hT,t3,t6,hsame,rfl,hI⟩:=hD;have hok:QQ Tryz.progTables sdG=true:=by kernel_rfl
 have hbig:=hI.la.big;refine KA hI.la.sn (KV rfl hok) (R:=fun _ _=>False) (Rr:=fun a w2=>∃u:World,(u.heap=(emW X w).heap∧OO u w)∧SdR u a w2) (fun t d=>?_) (fun a w2 w2' hE hS hK hFO hR=>hR.elim) (fun a todo w2 w2' hE hS hK hFO hR=>?_)
 ·have hu:On (emW X w) {emW X w with tape:=t,drawn:=d}:=Qaz t d;obtain⟨p1,p2,p3,p4⟩:=hI.p;obtain⟨f,rfl⟩:=Vy T hT;refine wp_mono (Qe6 f (Vi 3 t3 rfl) (Vi 6 t6 rfl) {emW X w with tape:=t,drawn:=d} (JP p1 hu) (JD p2 hu) (JP p4 hu) (JD p3 hu) hsame) fun e a w1 hq=>?_
  cases e with
  |normal=>exact hq.elim
  |ret=>exact⟨{emW X w with tape:=t,drawn:=d},⟨rfl,rfl,rfl⟩,hq⟩
  |_=>exact hq
 ·obtain⟨u,⟨hu,huo⟩,r1,r2,r3,hB⟩:=hR;have us:u.heap.size=w.heap.size:=by rw[hu,QF]
  exact .stop ⟨_,rfl,rfl,r1,rfl,rfl,by
   show a.tmps.getD 2 undef=_;rw[Array.getD_eq_getD_getElem?,r3]
   rfl,hI.la.piece rfl hu huo hE hS hK (hB.mono (by rw[us];exact hbig))⟩
end
theorem Qgx (a:Option Addr)(cap:Nat)(bs:List Int)(W:World)(hcap:bs.length≤cap)(hm:cap≤maxLen)(hby:∀x∈bs,0≤x∧x<256)(hsc:0<bs.length→∃b off,a=some ⟨b,off,none⟩∧b<W.heap.size∧∀i (hi:i<bs.length),W.cell? ⟨b,off+i,none⟩=some (.int .u8 bs[i])):
 ∃N last o w' t',runNT Tryz.prog (N+1) (solo (G (Frame.enter Tryz.prog 5 #[.slice a bs.length cap] .normal) []) W) #[]=(.ended o w',t')∧runN Tryz.prog N (solo (G (Frame.enter Tryz.prog 5 #[.slice a bs.length cap] .normal) []) W)=.next last∧step Tryz.prog last=.ended o w'∧
  Go.Conc.Good Tryz.prog (fun v w'=>v=.bool true∧w'.os=W.os∧w'.output=W.output∧W.heap.size≤w'.heap.size∧∀b,b<W.heap.size→w'.heap[b]? =W.heap[b]?) last o w' t':=by
 have hs:=QgI W;have hB:=Qcu W (G (Frame.enter Tryz.prog 5 #[.slice a bs.length cap] .normal) [])
 have fin:∀ {X:Nat→Bool} {SB:Nat→Prop} {gs:Array Goroutine} {w:World} {t:Trace} {sl:Option (Nat×Nat)} {K:Nat} {g:Goroutine},runNT Tryz.prog K (solo (G (Frame.enter Tryz.prog 5 #[.slice a bs.length cap] .normal) []) W) #[]=(.next (crowd gs w sl),t)→Bt X SB gs w t→gs[0]? =some g→Vf (X0 W) W X g w→
  ∃N last o w' t',runNT Tryz.prog (N+1) (solo (G (Frame.enter Tryz.prog 5 #[.slice a bs.length cap] .normal) []) W) #[]=(.ended o w',t')∧runN Tryz.prog N (solo (G (Frame.enter Tryz.prog 5 #[.slice a bs.length cap] .normal) []) W)=.next last∧step Tryz.prog last=.ended o w'∧
  Go.Conc.Good Tryz.prog (fun v w'=>v=.bool true∧w'.os=W.os∧w'.output=W.output∧W.heap.size≤w'.heap.size∧∀b,b<W.heap.size→w'.heap[b]? =W.heap[b]?) last o w' t':=by
  intro X SB gs w t sl K g hr hB h0 hE;obtain⟨fr,rfl,e1,e2,e3,e4,e5,hA⟩:=hE;refine Qgn hr (Qd2 hB h0 e1 e2 e3 (fn:=Tryz.f5) (by rw[e4];exact Tryz.func5) (by rw[e4];kernel_rfl) (v:=.bool true) (fun d=>?_) (fun d=>?_) (fun d=>⟨rfl,hA.oo.1,hA.oo.2,hA.big,fun b hb=>(hA.old b hb).1⟩) sl)
  ·have:=(resultsC_tmp (P:=Tryz.prog) (fn:=Tryz.f5) (t:=2) rfl fr.tmps (w.at d)).1;rw[e5]at this;exact this
  ·exact(resultsC_tmp (P:=Tryz.prog) (fn:=Tryz.f5) (t:=2) rfl fr.tmps (w.at d)).2
 obtain⟨n1,gs1,a1,w1,sl1,t1,hr1,hsz1,h01,hor,hB1⟩:=J3 hB rfl (QgA (Ch:=0) hcap hm hby (fun hp=>by
  obtain⟨b,off,e1,e2,e3⟩:=hsc hp
  exact⟨b,off,e1,e2,fun i hi=>(QcC W b _).trans (e3 i hi)⟩) hs) none
 rw[←solo_eq_crowd]at hr1;rcases hor with⟨T,b3,y,q0,q3,rfl,hI⟩|hE
 ·have hf:=hI.p.2;obtain⟨n2,gs2,w2,sl2,t2,X2,SB2,g,gv,hr2,h02,hB2,ho⟩:=Qfl hf.small hf.txt hf.cap hB1 hI.la.sn hf.isIn h01 sl1;obtain⟨n3,gs3,a3,w3,sl3,t3,hr3,hsz3,h03,hE3,hB3⟩:=J3 hB2 h02 (PJ (QgD (Ch:=0) q0 q3 hI ho) fun g w hD=>PJ (QgC hD) fun g w hD=>hD.elim (fun h=>QgB h) (fun h=>.stop h)) sl2;refine fin (K:=n1+(n2+n3)) (sl:=sl3) ?_ hB3 h03 hE3;rw[runNT_add,hr1];simp only;rw[runNT_add,hr2];exact hr3
 ·exact fin hr1 hB1 h01 hE
end Co
end Go.Proofs.YtcpnkpogebjieaaGreat
