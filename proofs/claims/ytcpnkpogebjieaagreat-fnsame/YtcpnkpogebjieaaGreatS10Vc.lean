/- What an ok heap is, as a plain function. No Go function is walked here. -/
import Derived.Test.YtcpnkpogebjieaaGreatS09ToH
import Derived.Maps.AppendAt
import Derived.RangeFuncFrom
import Derived.RangeFuncBox
import Derived.RangeFuncLeaves
import Derived.Shelf.Abstract
import Derived.WalkKit
import Derived.OwnWalkIn
import Derived.TacticsInMore
import Derived.LoopNIn
import Derived.LoopIn
open Nat renaming lt_of_lt_of_le→QhR,le_refl→QhS,le_trans→QhV
open Go.Value renaming slice→QhT
open Go.World renaming cell?_of_block→QhU,putObj_heap_other→QhW,putObj_heap_same→QhY
open List renaming getElem?_eq_getElem→QhX
set_option maxHeartbeats 400000
set_option maxRecDepth 100000
namespace Go.Proofs.YtcpnkpogebjieaaGreat
section
open Go.RowKit
def inB (n lo hi:Int):Bool:=decide (lo≤n)&&decide (n≤hi)
def Zl (c:UInt8):Bool:=(decide (97≤c.toNat)&&decide (c.toNat≤122))||(decide (48≤c.toNat)&&decide (c.toNat≤57))
def Zr (t:ByteArray):Bool:=decide (1≤t.size)&&decide (t.size≤12)&&t.data.toList.all Zl
def Q2 (most:Int)(r:List Int):Bool:=r.all fun z=>inB z (-1) (most-1)
def QU (k:Int)(t:ByteArray)(n:Nat):Bool:=
 if k=1 then Zr t&&decide (n=0)
 else if k=2 then decide (t.size=0)&&decide (n≤6)
 else if k=3 then decide (t.size=0)&&decide (n=2)
 else if k=4 then decide (t.size=0)&&decide (n=0)
 else false
def Qt (most:Int)(o:Int×ByteArray×List Int):Bool:=Q2 most o.2.2&&QU o.1 o.2.1 o.2.2.length
def Qn (os:List (Int×ByteArray×List Int))(p:Int×Int):Bool:=
 inB p.1 0 (os.length-1)&&inB p.2 0 (os.length-1)&&decide ((os[p.1.toNat]?.map fun o=>o.1)=some 4)
def okP (x:List (Int×ByteArray×List Int)×List Int×List (Int×Int)×List (Int×Int)):Bool:=
 (decide (x.1.length≤60)&&decide (x.2.1.length≤8)&&decide (x.2.2.1.length+x.2.2.2.length≤20))&&
 (x.1.all (Qt x.1.length)&&(Q2 x.1.length x.2.1&&(x.2.2.1.all (Qn x.1)&&x.2.2.2.all (Qn x.1))))
theorem Yh {α:Type}{l:List α}{f:α→Bool}(h:∀i (hi:i<l.length),f l[i]=true):l.all f=true:=by
 rw[List.all_eq_true];intro x hx;obtain⟨i,hi,rfl⟩:=List.getElem_of_mem hx;exact h i hi
theorem JG {α:Type}{l:List α}{f:α→Bool}{k:Nat}(hk:k<l.length)(h:f l[k]=false):l.all f=false:=by
 cases hx:l.all f with
 |false=>rfl
 |true=>rw[List.all_eq_true]at hx;rw[hx _ (List.getElem_mem hk)]at h;simp at h
theorem J8 {α:Type}{l:List α}{f:α→Bool}{k:Nat}(h:∀i (hi:i<l.length),i<k→f l[i]=true)(hk:k<l.length)(hf:f l[k]=true):∀i (hi:i<l.length),i<k+1→f l[i]=true:=fun i hi hik=>by
 by_cases e:i=k
 ·subst e;exact hf
 ·exact h i hi (by omega)
theorem VK {t:ByteArray}(h:t.toList=[]):t.size=0:=by
 rw[ByteArray.toList_eq]at h;have:=congrArg List.length h;simpa using this
theorem V0 {t:ByteArray}(h:t.size=0):t.toList=[]:=by
 rw[ByteArray.toList_eq];exact List.eq_nil_of_length_eq_zero (by simpa using h)
theorem QA {a b:Bool}(h:a=b):Ending.returned (.bool a)=.returned (.bool b):=by rw[h]
theorem P4 (n m:Nat):((n:Int)==(m:Int))=decide (n=m):=by
 rw[Bool.eq_iff_iff];simp;omega
theorem YB (n:Nat):((n:Int)==0)=decide (n=0):=P4 n 0
theorem P5 (n:Nat):((n:Int)==2)=decide (n=2):=P4 n 2
theorem Qe7 (n:Nat):decide ((n:Int)≤6)=decide (n≤6):=by
 rw[Bool.eq_iff_iff];simp;omega
/-Growing rows. -/
theorem US (w:World)(r:Option Nat):w.grownBy w r:=⟨rfl,rfl,rfl,QhS _,fun _ _ _=>rfl⟩
theorem Z4 {a b c:World}{r:Option Nat}(h:a.grownBy b r)(k:b.grownBy c r):a.grownBy c r:=
 ⟨k.os.trans h.os,k.tape.trans h.tape,k.output.trans h.output,QhV h.size k.size,fun i hi hr=>(k.block i (QhR hi h.size) hr).trans (h.block i hi hr)⟩
theorem Jd {w w':World}{B:Nat}(h:Below B w w')(hB:w.heap.size≤B)(r:Option Nat):w.grownBy w' r:=
 ⟨h.os,h.tape,h.output,h.size,fun k hk _=>h.block k (by omega)⟩
theorem QJ {w w':World}{B:Nat}{r:Option Nat}(h:w.grownBy w' r)(hB:B≤w.heap.size)(hr:∀k,r=some k→B≤k):Below B w w':=
 (Below.refl B w).grown h hB hr
theorem Qeh {a b c:World}{r s:Option Nat}(h:a.grownBy b r)(k:b.grownBy c s)(hs:s=r∨∃g,s=some g∧a.heap.size≤g):a.grownBy c r:=by
 refine⟨k.os.trans h.os,k.tape.trans h.tape,k.output.trans h.output,QhV h.size k.size,fun i hi hr=>?_⟩;refine(k.block i (QhR hi h.size) ?_).trans (h.block i hi hr);rcases hs with rfl|⟨g,rfl,hg⟩
 ·exact hr
 ·intro e;simp at e;omega
def Qa (w:World)(base:Nat)(v:Value)(zs:List Int):Prop:=w.ownsRow base 3 1 v zs.length (zs.map (Value.int .i64))
theorem Qa.form {w:World}{base:Nat}{v:Value}{zs:List Int}(h:Qa w base v zs):∃a cap,v=.slice a zs.length cap∧Qi w a zs∧(zs.length≤cap∧cap≤maxLen):=by
 rcases h.2 with⟨h1,h2⟩|⟨g,cap,cur,h1,hg,hh,hn,hc,hs,htake⟩
 ·refine⟨none,0,by rw[h1,h2],fun hm=>by omega,by omega,Nat.zero_le _⟩
 ·refine⟨some ⟨g,0,none⟩,cap,h1,fun hm=>⟨g,0,rfl,lt_of_block hh,fun i hi=>?_⟩,hn,hc⟩;have h':w.ownsRow base 3 1 (.slice (some ⟨g,0,none⟩) zs.length cap) zs.length (zs.map (Value.int .i64)):=by rw[←h1];exact h
  rw[Nat.zero_add,h'.cellAt i (by omega)];simp[List.getD,QhX hi]
theorem Qa.kept {w w':World}{base:Nat}{v:Value}{zs:List Int}{r:Option Nat}(h:Qa w base v zs)(hg:w.grownBy w' r)(hne:v.ownBlock=none∨v.ownBlock≠r):Qa w' base v zs:=World.ownsRow.kept h hg hne
theorem Qa.below {w w':World}{base B:Nat}{v:Value}{zs:List Int}(h:Qa w base v zs)(hb:Below B w w')(hB:w.heap.size≤B):Qa w' base v zs:=by
 refine World.ownsRow.kept h (Jd hb hB none) ?_
 cases e:v.ownBlock with
 |none=>exact Or.inl rfl
 |some k=>exact Or.inr (by simp)
theorem Qa.lt {w:World}{base:Nat}{v:Value}{zs:List Int}(h:Qa w base v zs):∀k,v.ownBlock=some k→base≤k∧k<w.heap.size:=World.ownsRow.lt h
theorem Qa.base {w:World}{B C:Nat}{v:Value}{zs:List Int}(h:Qa w B v zs)(hC:C≤B):Qa w C v zs:=by
 refine⟨h.1,?_⟩;rcases h.2 with h1|⟨g,cap,cur,h1,hg,r⟩
 ·exact Or.inl h1
 ·exact Or.inr ⟨g,cap,cur,h1,QhV hC hg,r⟩
theorem Qa.ne {w:World}{base:Nat}{v:Value}{zs:List Int}(h:Qa w base v zs){B t:Nat}{cs:List Value}(hb:Blk w B cs t)(ht:t≠3):v.ownBlock≠some B:=by
 intro e;rcases h.2 with⟨h1,_⟩|⟨g,cap,cur,h1,hg,hh,_⟩
 ·rw[h1]at e;simp[Value.ownBlock]at e
 ·rw[h1]at e;simp[Value.ownBlock]at e;subst e;unfold Blk at hb;rw[hb]at hh;simp at hh;exact ht hh.2
theorem Blk.grown {w w':World}{B t:Nat}{cs:List Value}{r:Option Nat}(h:Blk w B cs t)(hg:w.grownBy w' r)(hr:r≠some B):Blk w' B cs t:=by
 unfold Blk at *;rw[hg.block B (lt_of_block h) (fun e=>hr e.symm)];exact h
theorem QaA {v0 v v':Value}{a b:Nat}(h:v.ownBlock=v0.ownBlock∨∃g,v.ownBlock=some g∧a≤g)(h':v'.ownBlock=v.ownBlock∨∃g,v'.ownBlock=some g∧b≤g)(hab:a≤b):v'.ownBlock=v0.ownBlock∨∃g,v'.ownBlock=some g∧a≤g:=by
 rcases h' with h'|⟨g,e,hg⟩
 ·rw[h'];exact h
 ·exact Or.inr ⟨g,e,by omega⟩
theorem Qu {w:World}{B t:Nat}{h:Hp}(hk:Blk w B [QhT h.oa h.os.length h.ocap,QhT h.ra h.rs.length h.rcap,QhT h.wa h.ws.length h.wcap,QhT h.da h.ds.length h.dcap] t):
 w.cell? ⟨B,0,none⟩=some (.slice h.oa h.os.length h.ocap)∧w.cell? ⟨B,1,none⟩=some (.slice h.ra h.rs.length h.rcap)∧w.cell? ⟨B,2,none⟩=some (.slice h.wa h.ws.length h.wcap)∧w.cell? ⟨B,3,none⟩=some (.slice h.da h.ds.length h.dcap):=
 ⟨hk.cell 0,hk.cell 1,hk.cell 2,hk.cell 3⟩
def AvI (a:Option Addr)(n:Nat)(r:Option Nat):Prop:=0<n→∀x,a=some x→some x.block≠r
structure QM (h:Hp) (r:Option Nat):Prop where
 ao:AvI h.oa h.os.length r
 aoo:∀i (hi:i<h.os.length),AvI h.os[i].ra h.os[i].r.length r
 ar:AvI h.ra h.rs.length r
 aw:AvI h.wa h.ws.length r
 ad:AvI h.da h.ds.length r
theorem Qi.grown {w w':World}{a:Option Addr}{zs:List Int}{r:Option Nat}(h:Qi w a zs)(hg:w.grownBy w' r)(hr:AvI a zs.length r):Qi w' a zs:=by
 intro hm;obtain⟨b,off,h1,h2,h3⟩:=h hm;exact⟨b,off,h1,QhR h2 hg.size,fun i hi=>(QhU (w:=w) (hg.block b h2 (hr hm _ h1))).trans (h3 i hi)⟩
theorem Qz.grown {w w':World}{a:Option Addr}{ws:List (Int×Int)}{r:Option Nat}(h:Qz w a ws)(hg:w.grownBy w' r)(hr:AvI a ws.length r):Qz w' a ws:=by
 intro hm;obtain⟨b,off,h1,h2,h3⟩:=h hm;have hb:=hg.block b h2 (hr hm _ h1);exact⟨b,off,h1,QhR h2 hg.size,fun i hi=>⟨(QhU (w:=w) (a:=⟨b,_,none⟩) hb).trans (h3 i hi).1,(QhU (w:=w) (a:=⟨b,_,none⟩) hb).trans (h3 i hi).2⟩⟩
theorem ZE.grown {w w':World}{a:Option Addr}{os:List Ob}{r:Option Nat}(h:ZE w a os)(hg:w.grownBy w' r)(hr:AvI a os.length r)(hrr:∀i (hi:i<os.length),AvI os[i].ra os[i].r.length r):ZE w' a os:=by
 refine⟨fun hm=>?_,fun i hi=>(h.2 i hi).grown hg (hrr i hi)⟩;obtain⟨b,off,h1,h2,h3⟩:=h.1 hm;have hb:=hg.block b h2 (hr hm _ h1);exact⟨b,off,h1,QhR h2 hg.size,fun i hi=>⟨(QhU (w:=w) (a:=⟨b,_,none⟩) hb).trans (h3 i hi).1,(QhU (w:=w) (a:=⟨b,_,none⟩) hb).trans (h3 i hi).2.1,(QhU (w:=w) (a:=⟨b,_,none⟩) hb).trans (h3 i hi).2.2⟩⟩
theorem Qj.grown {w w':World}{h:Hp}{r:Option Nat}(hh:Qj w h)(hg:w.grownBy w' r)(hr:QM h r):Qj w' h:=
 ⟨hh.so.grown hg hr.ao hr.aoo,hh.sr.grown hg hr.ar,hh.sw.grown hg hr.aw,hh.sd.grown hg hr.ad⟩
theorem Qi.av {w:World}{a:Option Addr}{zs:List Int}(h:Qi w a zs){g:Nat}(hg:w.heap.size≤g):AvI a zs.length (some g):=fun hm x hx=>by
 obtain⟨b,off,h1,h2,_⟩:=h hm;rw[h1]at hx;simp at hx;subst hx;intro e;simp at e;omega
theorem Qj.av {w:World}{h:Hp}(hh:Qj w h){g:Nat}(hg:w.heap.size≤g):QM h (some g):=by
 refine⟨fun hm x hx=>?_,fun i hi=>(hh.so.2 i hi).av hg,hh.sr.av hg,fun hm x hx=>?_,fun hm x hx=>?_⟩
 ·obtain⟨b,off,h1,h2,_⟩:=hh.so.1 hm;rw[h1]at hx;simp at hx;subst hx;intro e;simp at e;omega
 ·obtain⟨b,off,h1,h2,_⟩:=hh.sw hm;rw[h1]at hx;simp at hx;subst hx;intro e;simp at e;omega
 ·obtain⟨b,off,h1,h2,_⟩:=hh.sd hm;rw[h1]at hx;simp at hx;subst hx;intro e;simp at e;omega
theorem AvI.none (a:Option Addr)(n:Nat):AvI a n .none:=fun _ x _ e=>by cases e
theorem QM.none (h:Hp):QM h .none:=⟨AvI.none _ _,fun _ _=>AvI.none _ _,AvI.none _ _,AvI.none _ _,AvI.none _ _⟩
/-Plain. -/
def put (l:List Int)(n:Int):List Int:=if n<0∨n∈l then l else l++ [n]
def putAll (l ns:List Int):List Int:=ns.foldl put l
def nextP (os:List (Int×ByteArray×List Int))(ds:List (Int×Int))(at_:Int):List Int:=
 match os[at_.toNat]? with
 |none=>[]
 |some o=>if o.1=3 then o.2.2.drop 1 else if o.1=4 then(ds.filter fun p=>p.1 ==at_).map fun p=>p.2 else o.2.2
def traceF (os:List (Int×ByteArray×List Int))(ds:List (Int×Int)):Nat→Nat→List Int→List Int
 |0,_,l=>l
 |f+1,i,l=>if i<l.length then traceF os ds f (i+1) (putAll l (nextP os ds (l.getD i 0)))else l
def reachP (x:List (Int×ByteArray×List Int)×List Int×List (Int×Int)×List (Int×Int)):List Int:=
 if okP x then traceF x.1 x.2.2.2 61 0 (putAll [] x.2.1)else []
structure Qr (n:Nat) (l:List Int):Prop where
 rng:∀z∈l,0≤z∧z<n
 nd:l.Nodup
theorem Qr.nil (n:Nat):Qr n []:=⟨fun _ h=>by simp at h,List.nodup_nil⟩
theorem Qr.put {n:Nat}{l:List Int}(h:Qr n l){z:Int}(hz:z<n):Qr n (put l z):=by
 unfold Go.Proofs.YtcpnkpogebjieaaGreat.put;split
 ·exact h
 ·rename_i hn;refine⟨fun y hy=>?_,?_⟩
  ·rcases List.mem_append.1 hy with hy|hy
   ·exact h.rng y hy
   ·simp at hy;subst hy;omega
  ·rw[List.nodup_append];refine⟨h.nd,by simp,fun a ha b hb=>?_⟩;simp at hb;subst hb;intro e;subst e;exact hn (Or.inr ha)
theorem Qr.putAll {n:Nat}{l ns:List Int}(h:Qr n l)(hn:∀z∈ns,z<n):Qr n (putAll l ns):=by
 unfold Go.Proofs.YtcpnkpogebjieaaGreat.putAll
 induction ns generalizing l with
 |nil=>exact h
 |cons z ns ih=>exact ih (h.put (hn z (by simp))) (fun y hy=>hn y (by simp[hy]))
theorem QfH (n:Nat):∀(l:List Nat),l.Nodup→(∀x∈l,x<n)→l.length≤n:=by
 induction n with
 |zero=>
  intro l _ h
  cases l with
  |nil=>simp
  |cons a l=>exact absurd (h a (by simp)) (by omega)
 |succ n ih=>
  intro l hnd h;by_cases hm:n∈l
  ·have h1:=ih (l.erase n) (hnd.erase n) (fun x hx=>by
    have:=hnd.mem_erase_iff.1 hx;have:=h x this.2
    omega)
   rw[List.length_erase_of_mem hm]at h1;omega
  ·have h1:=ih l hnd (fun x hx=>by
    have:=h x hx;have:x≠n:=fun e=>hm (e▸hx)
    omega)
   omega
theorem Qr.len {n:Nat}{l:List Int}(h:Qr n l):l.length≤n:=by
 have hnd:(l.map Int.toNat).Nodup:=by
  rw[List.Nodup,List.pairwise_map];refine List.Pairwise.imp_of_mem ?_ h.nd;intro a b ha hb hab;have h1:=h.rng a ha;have h2:=h.rng b hb;intro e;apply hab;omega
 have:=QfH n _ hnd (fun x hx=>by
  obtain⟨z,hz,rfl⟩:=List.mem_map.1 hx;have:=h.rng z hz
  omega)
 simpa using this
theorem Qf5 (l:List Int)(z:Int):l.length≤(put l z).length:=by
 unfold put;split<;>simp
theorem Qf3 (l ns:List Int):l.length≤(putAll l ns).length:=by
 unfold putAll
 induction ns generalizing l with
 |nil=>exact QhS _
 |cons z ns ih=>exact QhV (Qf5 l z) (ih _)
theorem Pu (l ns:List Int):∃t,putAll l ns=l++t:=by
 unfold putAll
 induction ns generalizing l with
 |nil=>exact⟨[],by simp⟩
 |cons z ns ih=>
  obtain⟨t,ht⟩:=ih (put l z)
  have hp:∃s,put l z=l++s:=by
   unfold put;split
   ·exact⟨[],by simp⟩
   ·exact⟨[z],rfl⟩
  obtain⟨s,hs⟩:=hp;refine⟨s++t,?_⟩;rw[List.foldl_cons,ht,hs,List.append_assoc]
theorem Qf4 (l ns:List Int)(k:Nat)(hk:k≤l.length):(putAll l ns).take k=l.take k:=by
 obtain⟨t,ht⟩:=Pu l ns;rw[ht,List.take_append_of_le_length hk]
theorem Pv (l ns:List Int)(k:Nat)(hk:k<ns.length):putAll l (ns.take (k+1))=put (putAll l (ns.take k)) ns[k]:=by
 unfold putAll;rw[List.take_succ_eq_append_getElem hk,List.foldl_append];rfl
def AtP (zs:List Int)(x r:Int):Prop:=(r= -1∧x∉zs)∨∃k:Nat,r=k∧zs[k]? =some x∧∀j,j<k→zs[j]? ≠some x
theorem AtP.mem {zs:List Int}{x r:Int}(h:AtP zs x r):0≤r↔x∈zs:=by
 rcases h with⟨rfl,hn⟩|⟨k,rfl,hk,_⟩
 ·simp[hn]
 ·simp only[Int.natCast_nonneg,true_iff];exact List.mem_of_getElem? hk
theorem VS {a b:Int}(h:a=b):Ending.returned (.int .i64 a)=.returned (.int .i64 b):=by rw[h]
theorem Qad (a:Option Addr)(n cap:Nat)(zs:List Int)(x:Int)(w:World)(hl:zs.length=n)(hn:n≤maxLen)(h:Qi w a zs):
 Calls Cut.prog 36 #[.slice a n cap,.int .i64 x] w fun e w'=>∃r:Int,e=.returned (.int .i64 r)∧w'=w∧AtP zs x r:=by
 unfold maxLen at hn;go_enter (Cut.func_of Tryz.func36 rfl),Tryz.ntmps36;go_wp2
 go_loop [5] (fun i=>∃j:Nat,j≤n∧i=.int .i64 j∧∀y,y<j→zs[y]? ≠some x) (fun i=>n-(intOf i).toNat)
 case atStart=>exact⟨0,Nat.zero_le _,rfl,fun y hy=>by omega⟩
 case round=>
  obtain⟨j,hj,rfl,hall⟩:=hrel;have HA:Hid (∀y,y<j→zs[y]? ≠some x):=hall;clear hall;by_cases hlt:j<n
  ·have hjl:j<zs.length:=by omega
   obtain⟨b,off,rfl,hbw,c1⟩:=h.get hjl;by_cases he:zs[j]=x
   ·have hd:(zs[j]==x)=true:=by simpa using he
    have HK:Hid (zs[j]? =some x):=by show _=_;rw[QhX hjl,he]
    clear he;go_wp2;go_ret;exact⟨_,rfl,rfl,Or.inr ⟨j,rfl,HK.out,HA.out⟩⟩
   ·have hd:(zs[j]==x)=false:=by simpa using he
    have HK:Hid (∀y,y<j+1→zs[y]? ≠some x):=fun y hy=>by
     by_cases e:y=j
     ·subst e;rw[QhX hjl];simpa using he
     ·exact HA.out y (by omega)
    clear he;go_wp2
    go_round
    case rel=>exact⟨j+1,by omega,by go_num,HK.out⟩
    case measure=>simp[intOf];omega
  ·go_wp2;go_ret;refine⟨_,rfl,rfl,Or.inl ⟨rfl,fun hm=>?_⟩⟩;obtain⟨y,hy,e⟩:=List.getElem_of_mem hm;exact HA.out y (by omega) (by rw[QhX hy,e])
theorem K7 (base:Nat)(v:Value)(zs:List Int)(x:Int)(w:World)(hv:Qa w base v zs)(hb:base≤w.heap.size)(hl:zs.length≤1000000):
 Calls Cut.prog 85 #[v,.int .i64 x] w fun e w'=>∃v',e=.returned v'∧Qa w' base v' (put zs x)∧w.grownBy w' v.ownBlock∧(v'.ownBlock=v.ownBlock∨∃g,v'.ownBlock=some g∧w.heap.size≤g):=by
 obtain⟨a,cap,rfl,hs,hc1,hc2⟩:=hv.form;by_cases hx:x<0
 ·have E:Hid (put zs x=zs):=by simp[Hid,put,hx]
  go_enter (Cut.func_of Tryz.func85 rfl),Tryz.ntmps85;go_wp2;go_ret;exact⟨_,rfl,by rw[E.out];exact hv,US _ _,Or.inl rfl⟩
 ·obtain⟨i0,hi,hz0,hz1,hz2⟩:=info_parts Je;have hd:decide (x<0)=false:=by simpa using hx
  go_enter (Cut.func_of Tryz.func85 rfl),Tryz.ntmps85;go_wp2_with fail;refine(Qad a zs.length cap zs x _ rfl (by unfold maxLen;omega) hs).mono ?_;rintro e w1 ⟨r,rfl,rfl,hr⟩;have hm:=hr.mem;clear hr;by_cases hr0:0≤r
  ·have E:Hid (put zs x=zs):=by simp[Hid,put,hm.1 hr0]
   clear hm;go_wp2;go_ret;exact⟨_,rfl,by rw[E.out];exact hv,US _ _,Or.inl rfl⟩
  ·have hx':x∉zs:=fun h=>hr0 (hm.2 h);have E:Hid (put zs x=zs++ [x]):=by simp[Hid,put,hx,hx']
   have hd2:decide (0≤r)=false:=by simpa using hr0
   clear hm hx';have hvA:(w1.alloc (Obj.cells #[Value.int .i64 x] 3)).ownsRow base 3 1 (.slice a zs.length cap) zs.length (zs.map (Value.int .i64)):=World.ownsRow.alloc hv _;go_wp2_with (at_builtin;refine wpList_append_own_at _ rfl _ _ 24 rfl base 3 i0 (.int .i64 0) 1 8 ((Cut.under_eq 24).trans Tryz.underlying24) hi hz0 hz1 hz2 rfl (by decide) _ _ _ rfl hvA ⟨w1.heap.size,0,none⟩ 1 1 [.int .i64 x] rfl rfl (cell_one_new _ _ _) ?c2 ?c3 ?c4 ?c5 ?_)
   case c2=>intro u hu;simp at hu;subst hu;rfl
   case c3=>unfold maxLen;omega
   case c4=>omega
   case c5=>simp;omega
   intro v' w2 hown hgr _ hat;have hg0:w1.grownBy w2 (QhT a zs.length cap).ownBlock:=Z4 (Jd ((Below.refl w1.heap.size w1).alloc (QhS _) _) (QhS _) _) hgr
   have hat':v'.ownBlock=(QhT a zs.length cap).ownBlock∨∃g,v'.ownBlock=some g∧w1.heap.size≤g:=by
    rcases hat with h|h
    ·exact Or.inl h
    ·exact Or.inr ⟨_,h,by simp⟩
   have hown':Hid (Qa w2 base v' (zs++ [x])):=by
    show Qa _ _ _ _;unfold Qa;simpa using hown
   clear hown hgr hat;go_wp2;go_ret;exact⟨_,rfl,by rw[E.out];exact hown'.out,hg0,hat'⟩
theorem Q1 (w:World)(g j:Nat)(v:Value):w.grownBy (w.setCell ⟨g,j,none⟩ v) (some g):=⟨rfl,rfl,rfl,by simp[World.setCell],fun k _ hk=>Below.heap_setCell _ _ _ _ (fun e=>hk (by rw[e]))⟩
def dig (d:Int):ByteArray:=ByteArray.empty.push (UInt8.ofNat d.toNat)
theorem QcK (d:Int)(w:World):(convert 22 9 (.slice (some ⟨w.heap.size,0,none⟩) 1 1)).run Cut.prog (w.alloc (Obj.cells #[Value.int .u8 d] 5))=.ok (.string (dig d)) (w.alloc (Obj.cells #[Value.int .u8 d] 5)):=by
 rw[run_convert_bytes_string _ _ _ 5 _ _ _ ((Cut.under_eq 22).trans Tryz.underlying22) ((Cut.under_eq 5).trans Tryz.underlying5) ((Cut.under_eq 9).trans Tryz.underlying9)];rw[run_bytesToString _ _ _ _ [d] ?_]
 ·rfl
 ·simp[loadCells,loadCellsFrom,go_sem]
structure Rg (lo hi:Nat) (w w':World):Prop where
 os:w'.os=w.os
 tape:w'.tape=w.tape
 output:w'.output=w.output
 size:w.heap.size≤w'.heap.size
 block:∀k,k<w.heap.size→(k<lo∨hi≤k)→w'.heap[k]? =w.heap[k]?
theorem Rg.refl (lo hi:Nat)(w:World):Rg lo hi w w:=⟨rfl,rfl,rfl,QhS _,fun _ _ _=>rfl⟩
theorem Rg.trans {lo hi:Nat}{a b c:World}(h:Rg lo hi a b)(k:Rg lo hi b c):Rg lo hi a c:=
 ⟨k.os.trans h.os,k.tape.trans h.tape,k.output.trans h.output,QhV h.size k.size,fun i hi hr=>(k.block i (QhR hi h.size) hr).trans (h.block i hi hr)⟩
theorem Rg.gb {lo hi g:Nat}{w w':World}(h:w.grownBy w' (some g))(h1:lo≤g)(h2:g<hi):Rg lo hi w w':=
 ⟨h.os,h.tape,h.output,h.size,fun k hk hr=>h.block k hk (fun e=>by simp at e;omega)⟩
theorem Rg.below {lo hi:Nat}{w w':World}(h:Rg lo hi w w')(hl:lo≤w.heap.size):Below lo w w':=
 ⟨h.os,h.tape,h.output,h.size,fun k hk=>h.block k (by omega) (Or.inl hk)⟩
theorem Rg.wide {lo hi lo' hi':Nat}{w w':World}(h:Rg lo hi w w')(h1:lo'≤lo)(h2:hi≤hi'):Rg lo' hi' w w':=
 ⟨h.os,h.tape,h.output,h.size,fun k hk hr=>h.block k hk (by omega)⟩
structure Mk (w:World) (go hi:Nat) (l:List Ob):Prop where
 cells:∃cs,Blk w go cs 37∧cs.length=l.length*3∧∀i (h:i<l.length),cs[i*3+2]? =some (.slice l[i].ra l[i].r.length l[i].rcap)
 parts:∀i (h:i<l.length),∃g cs,l[i].ra=some ⟨g,0,none⟩∧go<g∧g<hi∧l[i].rcap=l[i].r.length∧Blk w g cs 3∧cs.length=l[i].r.length
theorem Mk.below {w w':World}{go hi:Nat}{l:List Ob}{B:Nat}(h:Mk w go hi l)(hb:Below B w w')(hB:w.heap.size≤B):Mk w' go hi l:=by
 refine⟨?_,fun i hi=>?_⟩
 ·obtain⟨cs,h1,h2⟩:=h.cells;exact⟨cs,h1.below hb (QhR h1.lt hB),h2⟩
 ·obtain⟨g,cs,h1,h2,h3,h4,h5,h6⟩:=h.parts i hi;exact⟨g,cs,h1,h2,h3,h4,h5.below hb (QhR h5.lt hB),h6⟩
theorem Mk.store {w:World}{go hi:Nat}{l:List Ob}(h:Mk w go hi l)(j:Nat)(v:Value)(hj:j%3≠2):Mk (w.setCell ⟨go,j,none⟩ v) go hi l:=by
 refine⟨?_,fun i hi=>?_⟩
 ·obtain⟨cs,h1,h2,h3⟩:=h.cells;refine⟨_,h1.store j v,by simpa using h2,fun i hi=>?_⟩;rw[List.getElem?_set_ne (by omega)];exact h3 i hi
 ·obtain⟨g,cs,h1,h2,h3,h4,h5,h6⟩:=h.parts i hi;exact⟨g,cs,h1,h2,h3,h4,h5.other _ _ (by dsimp only;omega),h6⟩
theorem Mk.part {w w':World}{go hi:Nat}{l:List Ob}(h:Mk w go hi l){g:Nat}{cs cs':List Value}(hg:w.grownBy w' (some g))(hgo:go<g)(hb:Blk w g cs 3)(hb':Blk w' g cs' 3)(hl:cs'.length=cs.length):Mk w' go hi l:=by
 refine⟨?_,fun i hi=>?_⟩
 ·obtain⟨c,h1,h2⟩:=h.cells;exact⟨c,h1.grown hg (fun e=>by simp at e;omega),h2⟩
 ·obtain⟨x,c,h1,h2,h3,h4,h5,h6⟩:=h.parts i hi;by_cases e:x=g
  ·subst e
   have e1:c=cs:=by
    unfold Blk at h5 hb;rw[h5]at hb;simpa using hb
   subst e1;exact⟨x,cs',h1,h2,h3,h4,hb',by omega⟩
  ·exact⟨x,c,h1,h2,h3,h4,h5.grown hg (fun q=>e (by simpa using q.symm)),h6⟩
end
section
open Go Go.RowKit
structure Chg (M:Nat→Prop) (w w':World):Prop where
 os:w'.os=w.os
 tape:w'.tape=w.tape
 output:w'.output=w.output
 size:w.heap.size≤w'.heap.size
 block:∀k,k<w.heap.size→¬M k→w'.heap[k]? =w.heap[k]?
def Z9 (M:Nat→Prop)(w w':World)(k:Nat):Prop:=M k∨(w.heap.size≤k∧k<w'.heap.size)
def Kk {α:Type}(enc:α→Array Value)(F:Fence)(n:Nat)(P:Program)(g:Nat)(lb:Array Value)(xs:List α)(M0:Nat→Prop)(n0:Nat)(w:World):Prop:=
 ∀(l:Nat) (J:(Nat→Prop)→List α→World→Prop) (W:World),Below w.heap.size w W→
  (∀M pre A B,J M pre A→Chg M A B→J (Z9 M A B) pre B)→
  (∀M pre x W1,J M pre W1→pre++ [x]<+:xs→YieldAt F (n-1) P l (enc x) W1 fun e W'=>
    e=.returned (.bool true)∧J M (pre++ [x]) W'∧(∀k,M k→W'.heap[k]? =W1.heap[k]?)∧Below n0 W1 W')→
  J M0 [] W→
  CallsIn F n P g (#[.func (.yield l) #[] #[]]++lb) W fun e W'=>(∃v,e=.returned v)∧∃M,J M xs W'
def VQ {α:Type}(n0:Nat)(I:(Nat→Prop)→List α→World→Prop)(M:Nat→Prop)(xs:List α)(W:World):Exit→Act→World→Prop
 | .normal,_,W'=>KeepsOthers W W'∧(∀k,M k→W'.heap[k]? =W.heap[k]?)∧Below n0 W W'∧I M xs W'
 | .ret,_,_=>False
 | .exit _,_,_=>False
 | .goto _,_,_=>False
 | .panic _,_,_=>False
 | .outgrown,_,_=>False
theorem PO {α:Type}{enc:α→Array Value}{F:Fence}{n:Nat}{P:Program}{g:Operand}{ps:Array Tmp}{assign body:Code}{Q:Exit→Act→World→Prop}{a:Act}{w:World}
 (hro:F.round=none)(h1:1≤n){gf:Nat}{lb:Array Value}(hg:a.eval g=.func (.func gf) #[] lb)(hFg:F.fn gf)(eg:∀args w,(callFunc gf args).run P w=.ok (.enter gf args) w)
 {xs:List α}{M0:Nat→Prop}{n0:Nat}(hn0:n0≤w.heap.size)(hM0:∀k,M0 k→k<w.heap.size)(hseq:Kk enc F (n-1) P gf lb xs M0 n0 w)(hps:∀x,ps.size=(enc x).size)
 (I:(Nat→Prop)→List α→World→Prop)
 (hIc:∀M pre A B,I M pre A→Chg M A B→I (Z9 M A B) pre B)
 (hIo:∀M pre A (k:Nat) (o o':Obj),I M pre A→w.heap.size≤k→A.heap[k]? =some o→o.isCells=false→I M pre (A.putObj k o'))
 (hIa:∀M pre A (o:Obj),I M pre A→I M pre (A.alloc o))
 (h0:I M0 [] w)(a1:α→Act)
 (hassign:∀(l:Nat) (x:α) (W:World) (K:Act→World→Prop),K (a1 x) W→
   assign.wpIn (F.inRound l) (n-1-1) P (Exit.then K (fun _ _ _=>False)) {tmps:=(ps.zip (enc x)).foldl (fun t (p,v)=>t.setIfInBounds p v) a.tmps,defers:=[]} W)
 (hbody:∀(l:Nat) (M:Nat→Prop) (pre:List α) (x:α) (W:World),I M pre W→pre++ [x]<+:xs→body.wpIn (F.inRound l) (n-1-1) P (VQ n0 I M (pre++ [x]) W) (a1 x) W)
 (hdone:∀(D:Nat) (M:Nat→Prop) (W:World),w.heap.size≤D→I M xs W→W.heap[D]? =some (.deferred (some []))→Q .normal {a with defers:={target:=.collected D,args:=#[]}::a.defers} W):
 (Code.rangeFunc g ps assign body).wpIn F n P Q a w:=by
 refine wpIn_rangeFunc ?_;intro fn hfn;rw[hro];obtain⟨rec,hrec⟩:∃rec:LoopState→Option Code→Loop,rec=fun st pe=>{state:=st,pending:=pe,fn,tmps:=a.tmps,params:=ps,assign,body,defers:=w.heap.size}:=⟨_,rfl⟩;obtain⟨W1,hW1⟩:∃W1,(w.alloc (.deferred (some []))).alloc (.loop (rec .ready none))=W1:=⟨_,rfl⟩
 have hL1:W1.heap[w.heap.size+1]? =some (.loop (rec .ready none)):=by
  rw[←hW1];have:=World.alloc_heap_new (w.alloc (.deferred (some []))) (.loop (rec .ready none));rwa[World.size_alloc]at this
 have hK1:W1.heap[w.heap.size]? =some (.deferred (some [])):=by
  rw[←hW1];exact(Below.heap_alloc _ _ _ (by simp)).trans (World.alloc_heap_new w _)
 have hb1:Below w.heap.size w W1:=by
  rw[←hW1];exact((Below.refl _ w).alloc (QhS _) _).alloc (by simp) _
 refine⟨w.heap.size+1,[{target:=.collected w.heap.size,args:=#[]}],W1,{target:=.fn (.func gf) lb,args:=#[.func (.yield (w.heap.size+1)) #[] #[]]},W1,gf,
  #[.func (.yield (w.heap.size+1)) #[] #[]]++lb,W1,?_,?_,?_,?_,fun _=>h1,?_⟩
 ·rw[←hW1,hrec];exact run_enterLoop_outer _ _ _ _ _
 ·simp only[resolve,hg];simp[go_sem]
 ·intro f' hf';simp[Target.leads]at hf';subst hf';exact hFg
 ·simp[invoke,go_sem,eg]
 ·refine(hseq (w.heap.size+1)
   (fun M pre W=>I M pre W∧¬M (w.heap.size+1)∧¬M w.heap.size∧W.heap[w.heap.size+1]? =some (.loop (rec .ready none))∧W.heap[w.heap.size]? =some (.deferred (some [])))
   W1 hb1 ?_ ?_ ?_).mono ?_
  ·rintro M pre A B ⟨hi,m1,m2,hl,hk⟩ hc;have l1:=(Array.getElem?_eq_some_iff.1 hl).1;have l2:=(Array.getElem?_eq_some_iff.1 hk).1;exact⟨hIc M pre A B hi hc,fun h=>by rcases h with h|h;exact m1 h;omega,fun h=>by rcases h with h|h;exact m2 h;omega,(hc.block _ l1 m1).trans hl,(hc.block _ l2 m2).trans hk⟩
  ·rintro M pre x W ⟨hi,m1,m2,hl,hk⟩ hlen;have hlt:w.heap.size+1<W.heap.size:=(Array.getElem?_eq_some_iff.1 hl).1;have hy:=run_yield (P:=P) (args:=(enc x)) hl (by rw[hrec];exact(hps x).symm);rw[hrec]at hy;refine⟨fn,_,assign,body,hy,roundIn_of_wpIn hfn (hassign _ x W _ ⟨_,run_beginRound hl (by rw[hrec]),?_⟩)⟩;have hl2:(W.putObj (w.heap.size+1) (.loop {rec .ready none with state:=.busy})).heap[w.heap.size+1]? =some (.loop {rec .ready none with state:=.busy}):=QhY hlt;have hk2:(W.putObj (w.heap.size+1) (.loop {rec .ready none with state:=.busy})).heap[w.heap.size]? =some (.deferred (some [])):=(QhW (by omega)).trans hk;refine wpIn_mono (hbody _ M pre x _ (hIo M pre _ _ _ _ hi (by omega) hl rfl) hlen) ?_;rintro e a3 W3 hp
   cases e with
   |normal=>
    obtain⟨hk3,hm3,hb3,hi3⟩:=hp;have hl3:=hk3.same _ _ hl2 rfl;have hr:=run_endRound (P:=P) none hl3;have hlt3:w.heap.size+1<W3.heap.size:=(Array.getElem?_eq_some_iff.1 hl3).1;rw[hrec]at hr;refine⟨_,_,hr,rfl,⟨hIo M _ _ _ _ _ hi3 (by omega) hl3 rfl,m1,m2,?_,?_⟩,fun k hk=>?_,?_⟩
    ·rw[hrec];exact QhY hlt3
    ·exact(QhW (by omega)).trans (hk3.same _ _ hk2 rfl)
    ·have hne:k≠w.heap.size+1:=fun e=>m1 (e▸hk);rw[QhW (by omega),hm3 k hk,QhW (by omega)]
    ·have q1:Below n0 W (W.putObj (w.heap.size+1) (.loop {rec .ready none with state:=.busy})):=belowK_b hn0 W _ _ _ (by omega) hl rfl rfl;have q2:=belowK_b hn0 W3 (w.heap.size+1) _ (.loop {rec .ready none with state:=.ready,pending:=none}) (by omega) hl3 rfl rfl;rw[hrec]at q2;exact(q1.trans hb3).trans q2
   |ret=>exact hp.elim
   |exit id=>exact hp.elim
   |goto t=>exact hp.elim
   |panic ch=>exact hp.elim
   |outgrown=>exact hp.elim
  ·refine⟨?_,fun h=>by have:=hM0 _ h;omega,fun h=>by have:=hM0 _ h;omega,hL1,hK1⟩;rw[←hW1];exact hIa _ _ _ _ (hIa _ _ _ _ h0)
  ·rintro e W2 ⟨⟨v,rfl⟩,M,hi,m1,m2,hl,hk⟩;exact⟨none,_,by have:=run_endLoop (P:=P) hl (by rw[hrec];simp);rw[hrec]at this;exact this,hdone _ M _ (QhS _) (hIo M _ _ _ _ _ hi (by omega) hl rfl) ((QhW (by omega)).trans hk)⟩
end
end Go.Proofs.YtcpnkpogebjieaaGreat
