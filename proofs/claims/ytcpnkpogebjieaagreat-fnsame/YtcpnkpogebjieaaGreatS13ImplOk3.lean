/- The specification's own MemReach, whole. -/
import Derived.Test.YtcpnkpogebjieaaGreatS11Rs3
import Derived.Test.YtcpnkpogebjieaaGreatS12SpecOk4
import Derived.Deep.QuietTactic
import Derived.BigQuiet
import Derived.Deep.RegionWith
import Derived.Test.YtcpnkpogebjieaaGreatS10Vc
open Nat renaming le_refl→QhR,zero_le→QhT
open Go.Value renaming slice→QhS
open List renaming all_eq_true→QhU,eq_nil_of_length_eq_zero→QhV
set_option maxHeartbeats 1600000
set_option maxRecDepth 100000
namespace Go.Proofs.YtcpnkpogebjieaaGreat
section
open Go.RowKit
theorem ZP {h:Hp}(hok:okP h.p=true):h.os.length≤60∧h.rs.length≤8∧h.ws.length+h.ds.length≤20∧(∀i (hi:i<h.os.length),Qt h.os.length h.os[i].p=true)∧Q2 h.os.length h.rs=true∧(∀p∈h.ws,Qn (h.os.map Ob.p) p=true)∧(∀p∈h.ds,Qn (h.os.map Ob.p) p=true):=by
 by_cases hx:60<h.os.length∨8<h.rs.length∨20<h.ws.length+h.ds.length
 ·rw[Pm hx]at hok;simp at hok
 ·have h1:h.os.length≤60:=by omega
  have h2:h.rs.length≤8:=by omega
  have h3:h.ws.length+h.ds.length≤20:=by omega
  rw[VL h1 h2 h3]at hok;simp only[Bool.and_eq_true]at hok;obtain⟨a,b,c,d⟩:=hok;refine⟨h1,h2,h3,fun i hi=>?_,b,fun p hp=>?_,fun p hp=>?_⟩
  ·rw[QhU]at a;exact a _ (List.getElem_mem hi)
  ·rw[QhU]at c;exact c p hp
  ·rw[QhU]at d;exact d p hp
theorem JT {n:Nat}{r:List Int}(h:Q2 n r=true):∀z∈r,-1≤z∧z<n:=fun z hz=>by
 unfold Q2 at h;rw[QhU]at h;have:=h z hz;simp[inB]at this;omega
theorem Y0 {h:Hp}(hok:okP h.p=true)(hs:ZV h)(hcap:∀(i:Nat) (hi:i<h.os.length),h.os[i].r.length≤h.os[i].rcap):Tr h:=by
 obtain⟨h1,_,_,h4,_,_,h7⟩:=ZP hok;refine⟨h1,fun i hi hk=>?_,hcap,fun x z hz=>?_,fun x=>?_⟩
 ·have:=h4 i hi;simp only[Qt,Ob.p,Bool.and_eq_true]at this;have h5:=this.2;simp[QU,hk]at h5;omega
 ·by_cases hi:x.toNat<h.os.length
  ·have hr:Q2 h.os.length h.os[x.toNat].r=true:=by
    have:=h4 _ hi;simp only[Qt,Ob.p,Bool.and_eq_true]at this;exact this.1
   rw[YY rfl hi]at hz;split at hz
   ·exact(JT hr z (List.mem_of_mem_drop hz)).2
   ·split at hz
    ·obtain⟨p,hp,rfl⟩:=List.mem_map.1 hz;have:=h7 p (List.mem_filter.1 hp).1;simp only[Qn,inB,Bool.and_eq_true,decide_eq_true_eq,List.length_map]at this;omega
    ·exact(JT hr z hz).2
  ·have:nextP (h.os.map Ob.p) h.ds x=[]:=by
    unfold nextP;rw[List.getElem?_eq_none (by simp;omega)]
   rw[this]at hz;simp at hz
 ·by_cases hi:x.toNat<h.os.length
  ·rw[YY rfl hi];have hr:=hs.oo _ hi;have hd:=hs.d;split
   ·rw[List.length_drop];omega
   ·split
    ·rw[List.length_map];exact Nat.le_trans (List.length_filter_le _ _) hd
    ·exact hr
  ·have:nextP (h.os.map Ob.p) h.ds x=[]:=by
    unfold nextP;rw[List.getElem?_eq_none (by simp;omega)]
   rw[this];simp
theorem VD (h:Hp)(w:World)(hh:Qj w h)(hs:ZV h)(ht:Tr h)(hr:∀z∈h.rs,z<h.os.length):
 Calls Cut.prog 58 #[h.v] w fun e w'=>∃v',e=.returned v'∧Qa w' w.heap.size v' (traceF (h.os.map Ob.p) h.ds 61 0 (putAll [] h.rs))∧Qr h.os.length (traceF (h.os.map Ob.p) h.ds 61 0 (putAll [] h.rs))∧Below w.heap.size w w':=by
 have hn60:=ht.n60;have hrl:=hs.r;go_enter (Cut.func_of Tryz.func58 rfl),Tryz.ntmps58;simp only[Hp.v];go_wp2;have hB0:Below w.heap.size w (w.alloc (Obj.cells #[QhS h.oa h.os.length h.ocap,QhS h.ra h.rs.length h.rcap,QhS h.wa h.ws.length h.wcap,QhS h.da h.ds.length h.dcap] 27)):=(Below.refl _ _).alloc (QhR _) _;have hK0:=Blk.new w [QhS h.oa h.os.length h.ocap,QhS h.ra h.rs.length h.rcap,QhS h.wa h.ws.length h.wcap,QhS h.da h.ds.length h.dcap] 27;have hO0:=World.ownsRow_lit (e:=3) (size:=1) (base:=w.heap.size) (w.alloc (Obj.cells #[QhS h.oa h.os.length h.ocap,QhS h.ra h.rs.length h.rcap,QhS h.wa h.ws.length h.wcap,QhS h.da h.ds.length h.dcap] 27)) #[] 0 (by simp) (QhT _) rfl;simp only[World.size_alloc]at hO0;have hB1:=hB0.alloc hB0.size (Obj.cells #[] 3);go_loopw [3,4] (fun v i wr=>∃(j:Nat),i=.int .i64 j∧j≤h.rs.length∧Qa wr w.heap.size v (putAll [] (h.rs.take j))∧Qr h.os.length (putAll [] (h.rs.take j))∧Below w.heap.size w wr∧(∀k,v.ownBlock=some k→w.heap.size≤k)∧Blk wr w.heap.size [QhS h.oa h.os.length h.ocap,QhS h.ra h.rs.length h.rcap,QhS h.wa h.ws.length h.wcap,QhS h.da h.ds.length h.dcap] 27) (fun _ i _=>h.rs.length-(intOf i).toNat)
 case atStart=>exact⟨0,rfl,QhT _,hO0,Qr.nil _,hB1,fun k e=>by simp[Value.ownBlock]at e;omega,hK0.alloc _⟩
 case round=>
  obtain⟨j,rfl,hjn,hown,hpl,hb,hob,hblk⟩:=hrel;clear hB0 hK0 hO0 hB1;obtain⟨x0,x1,x2,x3⟩:=Qu hblk;by_cases hj:j<h.rs.length
  ·obtain⟨va,vcap,rfl,-⟩:=hown.form;have hpj:=hpl.len;have HP:Hid (putAll [] (h.rs.take (j+1))=put (putAll [] (h.rs.take j)) h.rs[j]):=Pv [] h.rs j hj;have hz:=hr h.rs[j] (List.getElem_mem hj);obtain⟨b6,off6,e6,hb6,d1⟩:=hh.sr.get hj;rw[e6]at x1;clear e6;have d2:=(hb.cell (p:=⟨b6,off6+j,none⟩) hb6).trans d1;have c3:=K7 w.heap.size _ (putAll [] (h.rs.take j)) h.rs[j] wr hown hb.size (by omega);clear d1;go_wp2_with fail;refine c3.mono ?_;rintro e w2 ⟨v',rfl,hown',hg',hat⟩;have hb':=hb.trans (QJ hg' hb.size hob);have hblk':=hblk.grown hg' (hown.ne hblk (by decide));have hob':∀k,v'.ownBlock=some k→w.heap.size≤k:=fun k e=>(hown'.lt k e).1
   have hpl':Hid (Qr h.os.length (putAll [] (h.rs.take (j+1)))):=by
    show Qr _ _;rw[HP.out];exact hpl.put hz
   have hown2:Hid (Qa w2 w.heap.size v' (putAll [] (h.rs.take (j+1)))):=by
    show Qa _ _ _ _;rw[HP.out];exact hown'
   clear c3 hown hpl hob hblk hat hg' hown' x0 x1 x2 x3 d2;go_wp2;go_roundw
   case rel=>exact⟨j+1,by go_num,by omega,hown2.out,hpl'.out,hb',hob',hblk'⟩
   case measure=>simp[intOf];omega
  ·have ej:h.rs.take j=h.rs:=List.take_of_length_le (by omega);rw[ej]at hown hpl;have hjd:decide ((j:Int)<(h.rs.length:Int))=false:=by simp;omega
   have hin:=hh.below hb (QhR _)
   have hav:QM h u3.ownBlock:=by
    cases e:u3.ownBlock with
    |none=>exact QM.none h
    |some k=>exact hh.av (hob k e)
   have c4:=Qae h w.heap.size 61 u3 (putAll [] h.rs) wr hin hs ht hown hb.size hav hpl (by omega);simp only[Hp.v]at c4;clear ej;go_wp2_with fail;refine c4.mono ?_;rintro e w2 ⟨v',rfl,hown',hpl',hg',hat⟩;have hb':=hb.trans (QJ hg' hb.size hob);clear c4;go_wp2;go_ret;exact⟨_,rfl,hown',hpl',hb'⟩
def Jl (r:Int):Bool:=(decide (97≤r)&&decide (r≤122))||(decide (48≤r)&&decide (r≤57))
theorem Qal (r:Int)(w:World):Calls Cut.prog 118 #[.int .i32 r] w fun e w'=>e=.returned (.bool (Jl r))∧w'=w:=by
 rcases(show(97≤r∧r≤122)∨(48≤r∧r≤57)∨r<48∨(57<r∧r<97)∨122<r from by omega)with⟨h,h'⟩|⟨h,h'⟩|h|⟨h,h'⟩|h
 ·have E:Hid (Jl r=true):=by simp[Hid,Jl];omega
  go_enter (Cut.func_of Tryz.func118 rfl),Tryz.ntmps118;go_wp2;go_ret;exact⟨QA (by rw[E.out]),rfl⟩
 ·have E:Hid (Jl r=true):=by simp[Hid,Jl];omega
  go_enter (Cut.func_of Tryz.func118 rfl),Tryz.ntmps118;go_wp2;go_ret;exact⟨QA (by rw[E.out]),rfl⟩
 ·have E:Hid (Jl r=false):=by simp[Hid,Jl];omega
  go_enter (Cut.func_of Tryz.func118 rfl),Tryz.ntmps118;go_wp2;go_ret;exact⟨QA (by rw[E.out]),rfl⟩
 ·have E:Hid (Jl r=false):=by simp[Hid,Jl];omega
  have hd1:decide (r≤57)=false:=by simp;omega
  go_enter (Cut.func_of Tryz.func118 rfl),Tryz.ntmps118;go_wp2;go_ret;exact⟨QA (by rw[E.out]),rfl⟩
 ·have E:Hid (Jl r=false):=by simp[Hid,Jl];omega
  have hd1:decide (r≤57)=false:=by simp;omega
  have hd2:decide (r≤122)=false:=by simp;omega
  go_enter (Cut.func_of Tryz.func118 rfl),Tryz.ntmps118;go_wp2;go_ret;exact⟨QA (by rw[E.out]),rfl⟩
theorem Qhj (t:ByteArray)(w:World)(ht:t.size≤maxLen):Calls Cut.prog 88 #[.string t] w fun e w'=>e=.returned (.bool (Zr t))∧Below w.heap.size w w':=by
 unfold maxLen at ht;by_cases h0:t.size=0
 ·have E:Hid (Zr t=false):=by simp[Hid,Zr];omega
  have hd:(((t.size:Nat):Int)==0)=true:=by rw[YB];simpa using h0
  go_enter (Cut.func_of Tryz.func88 rfl),Tryz.ntmps88;go_wp2;go_ret;exact⟨QA (by rw[E.out]),Below.refl _ _⟩
 have hd:(((t.size:Nat):Int)==0)=false:=by rw[YB];simpa using h0
 by_cases h1:12<t.size
 ·have E:Hid (Zr t=false):=by simp[Hid,Zr];omega
  go_enter (Cut.func_of Tryz.func88 rfl),Tryz.ntmps88;go_wp2;go_ret;exact⟨QA (by rw[E.out]),Below.refl _ _⟩
 have hd1:decide ((12:Int)<(t.size:Int))=false:=by simp;omega
 go_enter (Cut.func_of Tryz.func88 rfl),Tryz.ntmps88;go_wp2;go_loopw [2] (fun v wr=>∃k:Nat,k≤t.size∧v=.bool false∧wr=w.iter t k∧∀j (hj:j<t.data.toList.length),j<k→Zl t.data.toList[j]=true) (fun _ wr=>t.size-wr.iterPos w.heap.size)
 case atStart=>exact⟨0,QhT _,rfl,rfl,fun j _ h=>by omega⟩
 case round=>
  obtain⟨k,hk,rfl,rfl,hall⟩:=hrel;by_cases hlt:k<t.size
  ·have hkl:k<t.data.toList.length:=by simpa using hlt
   have hbe:t.data.toList[k]=t[k]:=rfl;have HB:Hid (Zl t[k]=true→∀j (hj:j<t.data.toList.length),j<k+1→Zl t.data.toList[j]=true):=fun h=>J8 hall hkl (by rw[hbe];exact h)
   have HN:Hid (Zl t[k]=false→Zr t=false):=fun h=>by
    have:=JG (f:=Zl) hkl (by rw[hbe];exact h);simp only[Zr,this,Bool.and_false]
   clear hall hbe;by_cases ha:t[k].toNat<128
   ·have hnx:∀ty,(Instr.next (.pointer (some ⟨w.heap.size,0,none⟩)) true ty).run Cut.prog (w.iter t k)=_:=fun ty=>run_next_ascii w t k ty hlt ha
    have HL:Hid (Jl (t[k].toNat:Int)=Zl t[k]):=by
     show _=_;rw[Bool.eq_iff_iff];simp[Jl,Zl];omega
    go_wp2_with fail;refine(Qal _ _).mono ?_;rintro e w1 ⟨rfl,rfl⟩;rw[HL.out]
    cases hby:Zl t[k]with
    |true=>
     have HR:=HB.out hby;clear hby HB HN;go_wp2;go_roundw
     case rel=>exact⟨k+1,by omega,rfl,rfl,HR⟩
     case measure=>simp;omega
    |false=>
     have HR:Hid (Zr t=false):=HN.out hby;clear hby HB HN;go_wp2;go_ret;exact⟨QA (by rw[HR.out]),(Below.refl _ _).alloc (QhR _) _⟩
   ·have hnx:∀ty,(Instr.next (.pointer (some ⟨w.heap.size,0,none⟩)) true ty).run Cut.prog (w.iter t k)=_:=fun ty=>run_next_any w t k ty hlt;obtain⟨hr,_⟩:=decode_high t k hlt (by omega);have HR:Hid (Zr t=false):=HN.out (by simp[Zl];omega);have HL:Hid (Jl ((Utf8.decode t k).1:Int)=false):=by simp[Hid,Jl];omega
    clear HB HN;go_wp2_with fail;refine(Qal _ _).mono ?_;rintro e w1 ⟨rfl,rfl⟩;rw[HL.out];go_wp2;go_ret;exact⟨QA (by rw[HR.out]),(Below.refl _ _).alloc (QhR _) _⟩
  ·have E:Hid (Zr t=true):=by
    have:=Yh (f:=Zl) (fun i hi=>hall i hi (by simp at hi;omega));simp only[Hid,Zr,this];simp;omega
   have hnx:∀ty,(Instr.next (.pointer (some ⟨w.heap.size,0,none⟩)) true ty).run Cut.prog (w.iter t k)=_:=fun ty=>run_next_end w t k ty hlt;clear hall;go_wp2;go_ret;exact⟨QA (by rw[E.out]),(Below.refl _ _).alloc (QhR _) _⟩
def plB (p n:Int):Bool:=decide (0≤p)&&decide (p<n)
theorem Ps (p n:Int)(w:World):Calls Cut.prog 90 #[.int .i64 p,.int .i64 n] w fun e w'=>e=.returned (.bool (plB p n))∧w'=w:=by
 by_cases h1:0≤p
 ·have E:Hid (plB p n=decide (p<n)):=by simp[Hid,plB,h1]
  go_enter (Cut.func_of Tryz.func90 rfl),Tryz.ntmps90;go_wp2;go_ret;exact⟨QA (by rw[E.out]),rfl⟩
 ·have E:Hid (plB p n=false):=by simp[Hid,plB,h1]
  have hd:decide (0≤p)=false:=by simpa using h1
  go_enter (Cut.func_of Tryz.func90 rfl),Tryz.ntmps90;go_wp2;go_ret;exact⟨QA (by rw[E.out]),rfl⟩
theorem Qew (n:Int):inB (-1) (-1) (n-1)=decide (0≤n):=by
 rw[Bool.eq_iff_iff];simp[inB];omega
theorem Qex {p:Int}(n:Int)(h:p≠-1):inB p (-1) (n-1)=plB p n:=by
 rw[Bool.eq_iff_iff];simp[inB,plB];omega
theorem VP (a:Option Addr)(n cap:Nat)(r:List Int)(most:Int)(w:World)(hl:r.length=n)(hn:n≤maxLen)(h:Qi w a r)(m0:0≤most):
 Calls Cut.prog 46 #[.slice a n cap,.int .i64 most] w fun e w'=>e=.returned (.bool (Q2 most r))∧w'=w:=by
 unfold maxLen at hn;go_enter (Cut.func_of Tryz.func46 rfl),Tryz.ntmps46;go_wp2
 go_loop [6,9] (fun _ i=>∃j:Nat,j≤n∧i=.int .i64 j∧∀x (hx:x<r.length),x<j→inB r[x] (-1) (most-1)=true) (fun _ i=>n-(intOf i).toNat)
 case atStart=>exact⟨0,QhT _,rfl,fun j _ h=>by omega⟩
 case round=>
  obtain⟨j,hj,rfl,hall⟩:=hrel;by_cases hlt:j<n
  ·have hjl:j<r.length:=by omega
   obtain⟨b,off,rfl,hbw,c1⟩:=h.get hjl;have HA:Hid (∀x (hx:x<r.length),x<j→inB r[x] (-1) (most-1)=true):=hall;clear hall;by_cases hm:r[j]= -1
   ·have HR:Hid (∀x (hx:x<r.length),x<j+1→inB r[x] (-1) (most-1)=true):=J8 (f:=fun z=>inB z (-1) (most-1)) HA.out hjl (by rw[hm,Qew];simpa using m0);have hd:(r[j]!= -1)=false:=by simpa using hm
    clear hm;go_wp2
    go_round
    case rel=>exact⟨j+1,by omega,by go_num,HR.out⟩
    case measure=>simp[intOf];omega
   ·have HP:Hid (inB r[j] (-1) (most-1)=plB r[j] most):=Qex most hm;have hd:(r[j]!= -1)=true:=by simpa using hm
    clear hm;go_wp2_with fail;refine(Ps _ _ _).mono ?_;rintro e w1 ⟨rfl,rfl⟩
    cases hin:plB r[j] most with
    |false=>
     have HF:Hid (Q2 most r=false):=JG (f:=fun z=>inB z (-1) (most-1)) hjl (by rw[HP.out,hin]);clear hin;go_wp2;go_ret;exact⟨QA (by rw[HF.out]),rfl⟩
    |true=>
     have HR:Hid (∀x (hx:x<r.length),x<j+1→inB r[x] (-1) (most-1)=true):=J8 (f:=fun z=>inB z (-1) (most-1)) HA.out hjl (by rw[HP.out,hin]);clear hin;go_wp2
     go_round
     case rel=>exact⟨j+1,by omega,by go_num,HR.out⟩
     case measure=>simp[intOf];omega
  ·have HF:Hid (Q2 most r=true):=Yh (f:=fun z=>inB z (-1) (most-1)) (fun i hi=>hall i hi (by omega));clear hall;go_wp2;go_ret;exact⟨QA (by rw[HF.out]),rfl⟩
def Q6 (k:Int)(t:ByteArray)(a:Option Addr)(n cap:Nat)(r:List Int):Value:=
 if k=1∧n=0 then .iface 106 (.agg #[.string t])
 else if t.size≠0 then .nilIface
 else if k=2 then .iface 108 (.agg #[.slice a n cap])
 else if k=3∧n=2 then .iface 110 (.agg #[.int .i64 (r.getD 0 0),.int .i64 (r.getD 1 0)])
 else if k=4∧n=0 then .iface 112 (.agg #[])
 else .nilIface
theorem Yr {a b:Value}(h:a=b):Ending.returned a=.returned b:=by rw[h]
theorem Qbp (k:Int)(t:ByteArray)(a:Option Addr)(n cap:Nat)(r:List Int)(w:World)(hl:r.length=n)(h:Qi w a r):
 Calls Cut.prog 45 #[.agg #[.int .i64 k,.string t,.slice a n cap]] w fun e w'=>e=.returned (Q6 k t a n cap r)∧Below w.heap.size w w':=by
 by_cases h1:k=1
 ·subst h1;by_cases h0:n=0
  ·subst h0;have E:Hid (Q6 1 t a 0 cap r=.iface 106 (.agg #[.string t])):=by simp[Hid,Q6]
   go_enter (Cut.func_of Tryz.func45 rfl),Tryz.ntmps45;go_wp2;go_ret;exact⟨Yr (by rw[E.out];rfl),(Below.refl _ _).alloc (QhR _) _⟩
  ·have hd:((n:Int)==0)=false:=by rw[YB];simpa using h0
   have E:Hid (Q6 1 t a n cap r=.nilIface):=by simp[Hid,Q6,h0]
   go_enter (Cut.func_of Tryz.func45 rfl),Tryz.ntmps45;go_wp2
   all_goals go_ret
   all_goals exact⟨Yr (by rw[E.out];rfl),(Below.refl _ _).alloc (QhR _) _⟩
 have g1:(k ==1)=false:=by simpa using h1
 by_cases ht:t.size=0
 ·have ht':=V0 ht;by_cases h2:k=2
  ·subst h2;have E:Hid (Q6 2 t a n cap r=.iface 108 (.agg #[.slice a n cap])):=by simp[Hid,Q6,ht]
   clear ht;go_enter (Cut.func_of Tryz.func45 rfl),Tryz.ntmps45;go_wp2;go_ret;exact⟨Yr (by rw[E.out];rfl),(Below.refl _ _).alloc (QhR _) _⟩
  have g2:(k ==2)=false:=by simpa using h2
  by_cases h3:k=3
  ·subst h3;by_cases h0:n=2
   ·subst h0;have q0:0<r.length:=by omega
    have q1:1<r.length:=by omega
    obtain⟨b,off,rfl,hbw,hc⟩:=h q0;have c0:w.cell? ⟨b,off,none⟩=some (.int .i64 r[0]):=(hc 0 q0).trans (by simp[List.getD,q0]);have c1:w.cell? ⟨b,off+1,none⟩=some (.int .i64 r[1]):=(hc 1 q1).trans (by simp[List.getD,q1]);have E:Hid (Q6 3 t (some ⟨b,off,none⟩) 2 cap r=.iface 110 (.agg #[.int .i64 r[0],.int .i64 r[1]])):=by simp[Hid,Q6,ht,q0,q1]
    clear ht hc h;go_enter (Cut.func_of Tryz.func45 rfl),Tryz.ntmps45;go_wp2_with fail;go_quiet (fail);go_wp2;go_ret;exact⟨Yr (by rw[E.out];rfl),ZX ((Below.refl _ _).alloc (QhR _) _) _⟩
   ·have hd:((n:Int)==2)=false:=by rw[P5];simpa using h0
    have E:Hid (Q6 3 t a n cap r=.nilIface):=by simp[Hid,Q6,h0,ht]
    clear ht;go_enter (Cut.func_of Tryz.func45 rfl),Tryz.ntmps45;go_wp2;go_ret;exact⟨Yr (by rw[E.out];rfl),(Below.refl _ _).alloc (QhR _) _⟩
  have g3:(k ==3)=false:=by simpa using h3
  by_cases h4:k=4
  ·subst h4;by_cases h0:n=0
   ·subst h0;have E:Hid (Q6 4 t a 0 cap r=.iface 112 (.agg #[])):=by simp[Hid,Q6,ht]
    clear ht;go_enter (Cut.func_of Tryz.func45 rfl),Tryz.ntmps45;go_wp2;go_ret;exact⟨Yr (by rw[E.out];rfl),(Below.refl _ _).alloc (QhR _) _⟩
   ·have hd:((n:Int)==0)=false:=by rw[YB];simpa using h0
    have E:Hid (Q6 4 t a n cap r=.nilIface):=by simp[Hid,Q6,h0,ht]
    clear ht;go_enter (Cut.func_of Tryz.func45 rfl),Tryz.ntmps45;go_wp2;go_ret;exact⟨Yr (by rw[E.out];rfl),(Below.refl _ _).alloc (QhR _) _⟩
  have g4:(k ==4)=false:=by simpa using h4
  have E:Hid (Q6 k t a n cap r=.nilIface):=by simp[Hid,Q6,h1,h2,h3,h4]
  clear ht h1 h2 h3 h4;go_enter (Cut.func_of Tryz.func45 rfl),Tryz.ntmps45;go_wp2;go_ret;exact⟨Yr (by rw[E.out];rfl),(Below.refl _ _).alloc (QhR _) _⟩
 ·have ht':¬t.toList=[]:=fun e=>ht (VK e);have ht2:t.toList.isEmpty=false:=by simpa using ht'
  have E:Hid (Q6 k t a n cap r=.nilIface):=by simp[Hid,Q6,h1,ht]
  clear ht h1;go_enter (Cut.func_of Tryz.func45 rfl),Tryz.ntmps45;go_wp2;go_ret;exact⟨Yr (by rw[E.out];rfl),(Below.refl _ _).alloc (QhR _) _⟩
theorem Qg6 (x:Value)(w:World):(Instr.typeAssert (.iface 106 x) 66 106 true).run Cut.prog w=.ok (.tuple #[x,.bool true]) w:=by kernel_rfl
theorem Qg5 (x:Value)(w:World):(Instr.typeAssert (.iface 106 x) 66 108 true).run Cut.prog w=.ok (.tuple #[.agg #[.slice none 0 0],.bool false]) w:=by kernel_rfl
theorem Qg8 (x:Value)(w:World):(Instr.typeAssert (.iface 106 x) 66 110 true).run Cut.prog w=.ok (.tuple #[.agg #[.int .i64 0,.int .i64 0],.bool false]) w:=by kernel_rfl
theorem Qg7 (x:Value)(w:World):(Instr.typeAssert (.iface 106 x) 66 112 true).run Cut.prog w=.ok (.tuple #[.agg #[],.bool false]) w:=by kernel_rfl
theorem Qg4 (x:Value)(w:World):(Instr.typeAssert (.iface 108 x) 66 106 true).run Cut.prog w=.ok (.tuple #[.agg #[.string ⟨#[]⟩],.bool false]) w:=by kernel_rfl
theorem Qbg (x:Value)(w:World):(Instr.typeAssert (.iface 108 x) 66 108 true).run Cut.prog w=.ok (.tuple #[x,.bool true]) w:=by kernel_rfl
theorem Qhe (x:Value)(w:World):(Instr.typeAssert (.iface 110 x) 66 106 true).run Cut.prog w=.ok (.tuple #[.agg #[.string ⟨#[]⟩],.bool false]) w:=by kernel_rfl
theorem Qbk (x:Value)(w:World):(Instr.typeAssert (.iface 110 x) 66 108 true).run Cut.prog w=.ok (.tuple #[.agg #[.slice none 0 0],.bool false]) w:=by kernel_rfl
theorem Qbl (x:Value)(w:World):(Instr.typeAssert (.iface 110 x) 66 110 true).run Cut.prog w=.ok (.tuple #[x,.bool true]) w:=by kernel_rfl
theorem Qhf (x:Value)(w:World):(Instr.typeAssert (.iface 110 x) 66 112 true).run Cut.prog w=.ok (.tuple #[.agg #[],.bool false]) w:=by kernel_rfl
theorem Qg9 (x:Value)(w:World):(Instr.typeAssert (.iface 112 x) 66 106 true).run Cut.prog w=.ok (.tuple #[.agg #[.string ⟨#[]⟩],.bool false]) w:=by kernel_rfl
theorem Qbh (x:Value)(w:World):(Instr.typeAssert (.iface 112 x) 66 108 true).run Cut.prog w=.ok (.tuple #[.agg #[.slice none 0 0],.bool false]) w:=by kernel_rfl
theorem Qbj (x:Value)(w:World):(Instr.typeAssert (.iface 112 x) 66 110 true).run Cut.prog w=.ok (.tuple #[.agg #[.int .i64 0,.int .i64 0],.bool false]) w:=by kernel_rfl
theorem Qbi (x:Value)(w:World):(Instr.typeAssert (.iface 112 x) 66 112 true).run Cut.prog w=.ok (.tuple #[x,.bool true]) w:=by kernel_rfl
theorem Qhb (w:World):(Instr.typeAssert .nilIface 66 106 true).run Cut.prog w=.ok (.tuple #[.agg #[.string ⟨#[]⟩],.bool false]) w:=by kernel_rfl
theorem Qha (w:World):(Instr.typeAssert .nilIface 66 108 true).run Cut.prog w=.ok (.tuple #[.agg #[.slice none 0 0],.bool false]) w:=by kernel_rfl
theorem Qhd (w:World):(Instr.typeAssert .nilIface 66 110 true).run Cut.prog w=.ok (.tuple #[.agg #[.int .i64 0,.int .i64 0],.bool false]) w:=by kernel_rfl
theorem Qhc (w:World):(Instr.typeAssert .nilIface 66 112 true).run Cut.prog w=.ok (.tuple #[.agg #[],.bool false]) w:=by kernel_rfl
theorem Qhl (t:ByteArray)(most:Int)(w:World)(ht:t.size≤maxLen):
 Calls Cut.prog 44 #[.iface 106 (.agg #[.string t]),.int .i64 most] w fun e w'=>e=.returned (.bool (Zr t))∧Below w.heap.size w w':=by
 have f1:=Qg6;go_enter (Cut.func_of Tryz.func44 rfl),Tryz.ntmps44;go_wp2_with fail;refine(Qhj _ _ ht).mono ?_;rintro e w1 ⟨rfl,hb⟩;go_wp2;go_ret;exact⟨rfl,((Below.refl _ _).alloc (QhR _) _).trans (hb.mono (by simp))⟩
theorem Qbq (most:Int)(w:World):
 Calls Cut.prog 44 #[.nilIface,.int .i64 most] w fun e w'=>e=.returned (.bool false)∧Below w.heap.size w w':=by
 have f1:=Qhb;have f2:=Qha;have f3:=Qhd;have f4:=Qhc;go_enter (Cut.func_of Tryz.func44 rfl),Tryz.ntmps44;go_wp2;go_ret;exact⟨rfl,Below.refl _ _⟩
theorem QcB (a:Option Addr)(n cap:Nat)(w:World):
 Calls Cut.prog 89 #[.agg #[.slice a n cap]] w fun e w'=>e=.returned (.slice a n cap)∧Below w.heap.size w w':=by
 go_enter (Cut.func_of Tryz.func89 rfl),Tryz.ntmps89;go_wp2;go_ret;exact⟨rfl,(Below.refl _ _).alloc (QhR _) _⟩
theorem Qhk (a:Option Addr)(n cap:Nat)(r:List Int)(most:Int)(w:World)(hl:r.length=n)(hn:n≤maxLen)(h:Qi w a r)(m0:0≤most):
 Calls Cut.prog 44 #[.iface 108 (.agg #[.slice a n cap]),.int .i64 most] w fun e w'=>e=.returned (.bool (decide (n≤6)&&Q2 most r))∧Below w.heap.size w w':=by
 have f1:=Qg4;have f2:=Qbg;have hB0:Below w.heap.size w (w.alloc (Obj.cells #[QhS a n cap] 108)):=(Below.refl _ _).alloc (QhR _) _;by_cases h6:n≤6
 ·have E:Hid ((decide (n≤6)&&Q2 most r)=Q2 most r):=by simp[Hid,h6]
  go_enter (Cut.func_of Tryz.func44 rfl),Tryz.ntmps44;go_wp2_with fail;refine(QcB _ _ _ _).mono ?_;rintro e w1 ⟨rfl,hb⟩;have hbb:=hB0.trans (hb.mono hB0.size);clear hb hB0;go_wp2_with fail;refine(VP a n cap r most _ hl hn (h.below hbb (QhR _)) m0).mono ?_;rintro e w2 ⟨rfl,rfl⟩;go_wp2;go_ret;exact⟨QA E.out.symm,hbb⟩
 ·have hd:decide ((n:Int)≤6)=false:=by simp;omega
  have E:Hid ((decide (n≤6)&&Q2 most r)=false):=by simp[Hid,h6]
  go_enter (Cut.func_of Tryz.func44 rfl),Tryz.ntmps44;go_wp2;go_ret;exact⟨QA E.out.symm,hB0⟩
theorem Qfo (x:Value)(w:World):(method 324 112 x "loop.example/sismem/impl.parts").run Cut.prog w=.ok (193,x) w:=by kernel_rfl
theorem Qfp (x:Value)(w:World):(method 324 110 x "loop.example/sismem/impl.parts").run Cut.prog w=.ok (192,x) w:=by kernel_rfl
theorem Qes (w:World):
 Calls Cut.prog 193 #[.agg #[]] w fun e w'=>e=.returned (.slice none 0 0)∧Below w.heap.size w w':=by
 go_enter (Cut.func_of Tryz.func193 rfl),Tryz.ntmps193;go_wp2;go_ret;exact⟨rfl,(Below.refl _ _).alloc (QhR _) _⟩
theorem QhI (x y:Int)(w:World):
 Calls Cut.prog 192 #[.agg #[.int .i64 x,.int .i64 y]] w fun e w'=>e=.returned (.slice (some ⟨w.heap.size+1,0,none⟩) 2 2)∧Below w.heap.size w w'∧Qi w' (some ⟨w.heap.size+1,0,none⟩) [x,y]:=by
 go_enter (Cut.func_of Tryz.func192 rfl),Tryz.ntmps192;go_wp2;go_ret;refine⟨rfl,((Below.refl _ _).alloc (QhR _) _).alloc (by simp) _,?_⟩;have hk:=Blk.new (w.alloc (.cells #[.int .i64 x,.int .i64 y] 110)) ([x,y].map (Value.int .i64)) 3;have:=hk.segI;simpa using this
theorem Qhm (most:Int)(w:World)(m0:0≤most):
 Calls Cut.prog 44 #[.iface 112 (.agg #[]),.int .i64 most] w fun e w'=>e=.returned (.bool true)∧Below w.heap.size w w':=by
 have f1:=Qg9;have f2:=Qbh;have f3:=Qbj;have f4:=Qbi;have f5:=Qfo;go_enter (Cut.func_of Tryz.func44 rfl),Tryz.ntmps44;go_wp2_with fail;refine(Qes _).mono ?_;rintro e w1 ⟨rfl,hb⟩;go_wp2_with fail;refine(VP none 0 0 [] most _ rfl (QhT _) (fun h=>by simp at h) m0).mono ?_;rintro e w2 ⟨rfl,rfl⟩;go_wp2;go_ret;exact⟨rfl,hb⟩
theorem Qho (x y:Int)(most:Int)(w:World)(m0:0≤most):
 Calls Cut.prog 44 #[.iface 110 (.agg #[.int .i64 x,.int .i64 y]),.int .i64 most] w fun e w'=>e=.returned (.bool (Q2 most [x,y]))∧Below w.heap.size w w':=by
 have f1:=Qhe;have f2:=Qbk;have f3:=Qbl;have f4:=Qhf;have f5:=Qfp;go_enter (Cut.func_of Tryz.func44 rfl),Tryz.ntmps44;go_wp2_with fail;refine(QhI _ _ _).mono ?_;rintro e w1 ⟨rfl,hb,hs⟩;go_wp2_with fail;refine(VP _ 2 2 [x,y] most _ rfl (by unfold maxLen;omega) hs m0).mono ?_;rintro e w2 ⟨rfl,rfl⟩;go_wp2;go_ret;exact⟨rfl,hb⟩
theorem Qhn (k:Int)(t:ByteArray)(a:Option Addr)(n cap:Nat)(r:List Int)(most:Int)(w:World)(hl:r.length=n)(hn:n≤maxLen)(ht:t.size≤maxLen)(h:Qi w a r)(m0:0≤most):
 Calls Cut.prog 44 #[Q6 k t a n cap r,.int .i64 most] w fun e w'=>e=.returned (.bool (Qt most (k,t,r)))∧Below w.heap.size w w':=by
 subst hl;by_cases h1:k=1∧r.length=0
 ·obtain⟨rfl,hr⟩:=h1;have hr':r=[]:=QhV hr;subst hr';have e:Qt most (1,t,[])=Zr t:=by simp[Qt,Q2,QU]
  rw[e];have e2:Q6 1 t a ([]:List Int).length cap []=.iface 106 (.agg #[.string t]):=by simp[Q6]
  rw[e2];exact Qhl t most w ht
 ·have e1:Q6 k t a r.length cap r=if t.size≠0 then .nilIface else if k=2 then .iface 108 (.agg #[.slice a r.length cap])else if k=3∧r.length=2 then .iface 110 (.agg #[.int .i64 (r.getD 0 0),.int .i64 (r.getD 1 0)])else if k=4∧r.length=0 then .iface 112 (.agg #[])else .nilIface:=by
   unfold Q6;rw[if_neg h1]
  rw[e1];by_cases hz:t.size=0
  ·rw[if_neg (by simpa using hz)];by_cases h2:k=2
   ·subst h2;rw[if_pos rfl];have e:Qt most (2,t,r)=(decide (r.length≤6)&&Q2 most r):=by simp[Qt,QU,hz,Bool.and_comm]
    rw[e];exact Qhk a r.length cap r most w rfl hn h m0
   ·rw[if_neg h2];by_cases h3:k=3∧r.length=2
    ·obtain⟨rfl,hr⟩:=h3;rw[if_pos ⟨rfl,hr⟩]
     obtain⟨x,y,rfl⟩:∃x y,r=[x,y]:=by
      match r,hr with
      | [x,y],_=>exact⟨x,y,rfl⟩
     have e:Qt most (3,t,[x,y])=Q2 most [x,y]:=by simp[Qt,QU,hz]
     rw[e];exact Qho x y most w m0
    ·rw[if_neg h3];by_cases h4:k=4∧r.length=0
     ·obtain⟨rfl,hr⟩:=h4;rw[if_pos ⟨rfl,hr⟩];have hr':r=[]:=QhV hr;subst hr';have e:Qt most (4,t,[])=true:=by simp[Qt,Q2,QU,hz]
      rw[e];exact Qhm most w m0
     ·rw[if_neg h4]
      have e:Qt most (k,t,r)=false:=by
       have:QU k t r.length=false:=by
        unfold QU;by_cases q1:k=1
        ·rw[if_pos q1];have:¬r.length=0:=fun hh=>h1 ⟨q1,hh⟩;simp[this]
        ·rw[if_neg q1,if_neg h2];by_cases q3:k=3
         ·rw[if_pos q3];have:¬r.length=2:=fun hh=>h3 ⟨q3,hh⟩;simp[this]
         ·rw[if_neg q3];by_cases q4:k=4
          ·rw[if_pos q4];have:¬r.length=0:=fun hh=>h4 ⟨q4,hh⟩;simp[this]
          ·rw[if_neg q4]
       simp only[Qt,this,Bool.and_false]
      rw[e];exact Qbq most w
  ·rw[if_pos hz]
   have e:Qt most (k,t,r)=false:=by
    have:QU k t r.length=false:=by
     unfold QU;by_cases q1:k=1
     ·rw[if_pos q1];have:¬r.length=0:=fun hh=>h1 ⟨q1,hh⟩;simp[this]
     ·simp[hz,q1]
    simp only[Qt,this,Bool.and_false]
   rw[e];exact Qbq most w
end
end Go.Proofs.YtcpnkpogebjieaaGreat
