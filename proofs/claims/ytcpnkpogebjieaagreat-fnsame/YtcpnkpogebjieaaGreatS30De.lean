/- The specification's own copy of a heap: its first region, which draws its order, by an -/
import Derived.Test.YtcpnkpogebjieaaGreatS27Ss4
import Derived.Test.YtcpnkpogebjieaaGreatS29Im
open Go.Value renaming slice→QhR
open Nat renaming le_refl→QhS
open Go.Obj renaming cells→QhT
namespace Go.Proofs.YtcpnkpogebjieaaGreat
section
open Go.RowKit
structure ZR where
 b0:Bool
 b3:Bool
 b4:Bool
 b7:Bool
 b8:Bool
 b11:Bool
 b12:Bool
 b13:Bool
 b14:Bool
 s3:Value
 s5:Value
 s8:Value
 s9:Value
 s12:Value
 s13:Value
 s16:Value
 s17:Value
def ZR.arr (s:ZR):Array Bool:=#[s.b0,true,true,s.b3,s.b4,true,true,s.b7,s.b8,true,true,s.b11,s.b12,s.b13,s.b14]
def ZM (u v:Value):Prop:=∀k,u.ownBlock=some k→v.ownBlock≠some k
structure CpW (w0:World) (h:Hp) (s:ZR) (W:World):Prop where
 be:Below w0.heap.size w0 W
 bh:Blk W w0.heap.size [QhR h.oa h.os.length h.ocap,QhR h.ra h.rs.length h.rcap,QhR h.wa h.ws.length h.wcap,QhR h.da h.ds.length h.dcap] 27
 br:Blk W (w0.heap.size+1) [QhR none 0 0,QhR none 0 0,QhR none 0 0,QhR none 0 0] 27
 f0:s.b0=true→s.b3=false→Qa W w0.heap.size s.s5 []
 f3:s.b3=true→Qa W w0.heap.size s.s8 h.rs
 f4:s.b4=true→s.b7=false→Qe W w0.heap.size s.s9 []
 f7:s.b7=true→Qe W w0.heap.size s.s12 h.ws
 f8:s.b8=true→s.b11=false→Qe W w0.heap.size s.s13 []
 f11:s.b11=true→Qe W w0.heap.size s.s16 h.ds
 f12:s.b12=true→s.s17=.agg #[.slice none 0 0,s.s8,s.s12,s.s16]
 f13:s.b13=true→∃g,s.s3=.pointer (some ⟨g,0,none⟩)∧w0.heap.size+1+1≤g∧Blk W g (if s.b14=true then [.slice none 0 0,s.s8,s.s12,s.s16]else [QhR none 0 0,QhR none 0 0,QhR none 0 0,QhR none 0 0]) 27
 d48:s.b4=true→s.b7=false→s.b8=true→s.b11=false→ZM s.s9 s.s13
 d78:s.b7=true→s.b8=true→s.b11=false→ZM s.s12 s.s13
 d711:s.b7=true→s.b11=true→ZM s.s12 s.s16
 o30:s.b3=true→s.b0=true
 o74:s.b7=true→s.b4=true
 o118:s.b11=true→s.b8=true∧s.b7=true
 o12:s.b12=true→s.b3=true∧s.b7=true∧s.b11=true
 o14:s.b14=true→s.b12=true∧s.b13=true
theorem CpW.step {w0:World}{h:Hp}{s:ZR}{W W':World}(c:CpW w0 h s W)(hb:Below W.heap.size W W'):CpW w0 h s W' where
 be:=c.be.trans (hb.mono c.be.size)
 bh:=c.bh.step hb
 br:=c.br.step hb
 f0:=fun h1 h2=>(c.f0 h1 h2).below hb (QhS _)
 f3:=fun h1=>(c.f3 h1).below hb (QhS _)
 f4:=fun h1 h2=>(c.f4 h1 h2).below hb (QhS _)
 f7:=fun h1=>(c.f7 h1).below hb (QhS _)
 f8:=fun h1 h2=>(c.f8 h1 h2).below hb (QhS _)
 f11:=fun h1=>(c.f11 h1).below hb (QhS _)
 f12:=c.f12
 f13:=fun h1=>by
  obtain⟨g,e1,e2,e3⟩:=c.f13 h1;exact⟨g,e1,e2,e3.step hb⟩
 d48:=c.d48
 d78:=c.d78
 d711:=c.d711
 o30:=c.o30
 o74:=c.o74
 o118:=c.o118
 o12:=c.o12
 o14:=c.o14
theorem QO {W W':World}{base e size n base' e' size' n':Nat}{v v':Value}{xs xs':List Value}(h:W.ownsRow base e size v n xs)(h':W.ownsRow base' e' size' v' n' xs')(hg:W.grownBy W' v'.ownBlock)(he:e≠e'):W'.ownsRow base e size v n xs:=World.ownsRow.kept h hg (UB h h' he)
theorem YK {W W':World}{base e size n:Nat}{v v':Value}{xs:List Value}(h:W.ownsRow base e size v n xs)(hg:W.grownBy W' v'.ownBlock)(hap:ZM v v'):W'.ownsRow base e size v n xs:=World.ownsRow.kept h hg (by
 cases hv:v.ownBlock with
 |none=>exact Or.inl rfl
 |some k=>exact Or.inr fun e=>hap k hv e.symm)
theorem ZM.symm {u v:Value}(h:ZM u v):ZM v u:=fun k hk e=>h k e hk
theorem Km {W:World}{base e size n g c m:Nat}{v:Value}{xs:List Value}(h:W.ownsRow base e size v n xs)(hg:W.heap.size≤g):ZM v (.slice (some ⟨g,0,none⟩) m c):=fun k hk e=>by
 have:=(h.lt k hk).2;simp[Value.ownBlock]at e;omega
theorem Uh {W:World}{base e size n:Nat}{u v v':Value}{xs:List Value}(hu:W.ownsRow base e size u n xs)(hap:ZM u v)(hat:v'.ownBlock=v.ownBlock∨v'.ownBlock=some W.heap.size):ZM u v':=fun k hk e=>by
 rcases hat with h|h
 ·exact hap k hk (h▸e)
 ·rw[h]at e;have:=(hu.lt k hk).2;simp at e;omega
structure Qk (w:World) (B:Nat) (h:Hp):Prop where
 ob:Qw w B (.slice h.oa h.os.length h.ocap) h.os
 rs:∀i (hi:i<h.os.length),Qa w B h.os[i].rv h.os[i].r
 rne:∀i j (hi:i<h.os.length) (hj:j<h.os.length),i≠j→ZM h.os[i].rv h.os[j].rv
 ro:Qa w B (.slice h.ra h.rs.length h.rcap) h.rs
 rro:∀i (hi:i<h.os.length),ZM h.os[i].rv (.slice h.ra h.rs.length h.rcap)
 wa:Qe w B (.slice h.wa h.ws.length h.wcap) h.ws
 da:Qe w B (.slice h.da h.ds.length h.dcap) h.ds
 wne:ZM (.slice h.wa h.ws.length h.wcap) (.slice h.da h.ds.length h.dcap)
theorem Qk.isIn {w:World}{B:Nat}{h:Hp}(hh:Qk w B h):Qj w h:=by
 refine⟨?_,?_,?_,?_⟩
 ·obtain⟨a,cap,e,_,hs⟩:=hh.ob.form;simp only[Value.slice.injEq]at e;rw[e.1];refine hs fun i hi=>?_;obtain⟨a,cap,e,hs,_⟩:=(hh.rs i hi).form;simp only[Ob.rv,Value.slice.injEq]at e;rw[e.1];exact hs
 ·obtain⟨a,cap,e,hs,_⟩:=hh.ro.form;simp only[Value.slice.injEq]at e;rw[e.1];exact hs
 ·obtain⟨a,cap,e,hs,_⟩:=hh.wa.form;simp only[Value.slice.injEq]at e;rw[e.1];exact hs
 ·obtain⟨a,cap,e,hs,_⟩:=hh.da.form;simp only[Value.slice.injEq]at e;rw[e.1];exact hs
theorem Qk.below {w w':World}{B C:Nat}{h:Hp}(hh:Qk w B h)(hb:Below C w w')(hC:w.heap.size≤C):Qk w' B h:=
 ⟨hh.ob.below hb hC,fun i hi=>(hh.rs i hi).below hb hC,hh.rne,hh.ro.below hb hC,hh.rro,hh.wa.below hb hC,hh.da.below hb hC,hh.wne⟩
theorem Qk.keep {A C:World}{B:Nat}{h:Hp}(hh:Qk A B h)(hk:Qf 27 A C):Qk C B h:=
 ⟨Qm hh.ob hk (by decide),fun i hi=>Qm (hh.rs i hi) hk (by decide),hh.rne,Qm hh.ro hk (by decide),hh.rro,Qm hh.wa hk (by decide),Qm hh.da hk (by decide),hh.wne⟩
end
section
open Go.RowKit
variable {w0:World} {h:Hp} {s:ZR} {W W':World}
theorem QC (W:World)(o:Obj):Below W.heap.size W (W.alloc o):=(Below.refl _ _).alloc (QhS _) _
theorem CpW.s0 (c:CpW w0 h s W)(hb:s.b3=false):CpW w0 h {s with b0:=true,s5:=.slice (some ⟨W.heap.size,0,none⟩) 0 0} (W.alloc (QhT #[] 3)):=by
 have k:=c.step (QC W (QhT #[] 3));have hn:=World.ownsRow_lit (e:=3) (size:=1) (base:=w0.heap.size) W #[] 0 c.be.size (Nat.zero_le _) rfl;exact {k with f0:=fun _ _=>hn,o30:=fun e=>by simp[hb]at e}
theorem CpW.s4 (c:CpW w0 h s W)(hb:s.b7=false):CpW w0 h {s with b4:=true,s9:=.slice (some ⟨W.heap.size,0,none⟩) 0 0} (W.alloc (QhT #[] 40)):=by
 have k:=c.step (QC W (QhT #[] 40));have hn:=World.ownsRow_lit (e:=40) (size:=2) (base:=w0.heap.size) W #[] 0 c.be.size (Nat.zero_le _) rfl;exact {k with f4:=fun _ _=>hn,d48:=fun _ _ h8 h11=>(Km (c.f8 h8 h11) (QhS _)).symm,o74:=fun e=>by simp[hb]at e}
theorem CpW.s8_ (c:CpW w0 h s W)(hb:s.b11=false):CpW w0 h {s with b8:=true,s13:=.slice (some ⟨W.heap.size,0,none⟩) 0 0} (W.alloc (QhT #[] 40)):=by
 have k:=c.step (QC W (QhT #[] 40));have hn:=World.ownsRow_lit (e:=40) (size:=2) (base:=w0.heap.size) W #[] 0 c.be.size (Nat.zero_le _) rfl;exact {k with f8:=fun _ _=>hn,d48:=fun h4 h7 _ _=>Km (c.f4 h4 h7) (QhS _),d78:=fun h7 _ _=>Km (c.f7 h7) (QhS _),o118:=fun e=>by simp[hb]at e}
theorem CpW.s13_ (c:CpW w0 h s W)(hb:s.b14=false):CpW w0 h {s with b13:=true,s3:=.pointer (some ⟨W.heap.size,0,none⟩)} (W.alloc (QhT #[QhR none 0 0,QhR none 0 0,QhR none 0 0,QhR none 0 0] 27)):=by
 have k:=c.step (QC W (QhT #[QhR none 0 0,QhR none 0 0,QhR none 0 0,QhR none 0 0] 27));refine {k with f13:=fun _=>⟨W.heap.size,rfl,c.br.lt,?_⟩,o14:=fun e=>by simp[hb]at e};have:(if s.b14=true then [QhR none 0 0,s.s8,s.s12,s.s16]else [QhR none 0 0,QhR none 0 0,QhR none 0 0,QhR none 0 0])=[QhR none 0 0,QhR none 0 0,QhR none 0 0,QhR none 0 0]:=by rw[hb];rfl
 show Blk _ _ (if s.b14=true then _ else _) _;rw[this];exact Blk.new W _ _
theorem CpW.s12_ (c:CpW w0 h s W)(h3:s.b3=true)(h7:s.b7=true)(h11:s.b11=true):CpW w0 h {s with b12:=true,s17:=.agg #[.slice none 0 0,s.s8,s.s12,s.s16]} W:=
 {c with f12:=fun _=>rfl,o12:=fun _=>⟨h3,h7,h11⟩,o14:=fun e=>⟨rfl,(c.o14 e).2⟩}
theorem CpW.thirteen (c:CpW w0 h s W)(h14:s.b14=false){W':World}{vs:ZR}(hs3:vs.s3=s.s3)(hb14:vs.b14=s.b14)(hk:∀g cs,Blk W g cs 27→Blk W' g cs 27)(h13:s.b13=true):
 ∃g,vs.s3=.pointer (some ⟨g,0,none⟩)∧w0.heap.size+1+1≤g∧Blk W' g (if vs.b14=true then [.slice none 0 0,vs.s8,vs.s12,vs.s16]else [QhR none 0 0,QhR none 0 0,QhR none 0 0,QhR none 0 0]) 27:=by
 obtain⟨g,e1,e2,e3⟩:=c.f13 h13;have n1:¬s.b14=true:=by simp[h14]
 have n2:¬vs.b14=true:=by simp[hb14,h14]
 rw[if_neg n1]at e3;refine⟨g,by rw[hs3];exact e1,e2,?_⟩;rw[if_neg n2];exact hk g _ e3
theorem CpW.s3_ (c:CpW w0 h s W)(hb3:s.b3=false)(h0:s.b0=true)(v':Value)(hown:Qa W' w0.heap.size v' h.rs)(hg:W.grownBy W' s.s5.ownBlock):CpW w0 h {s with b3:=true,s8:=v'} W':=by
 have hv:=c.f0 h0 hb3
 have h12:s.b12=false:=by
  cases e:s.b12 with
  |false=>rfl
  |true=>have:=(c.o12 e).1;simp[hb3]at this
 have h14:s.b14=false:=by
  cases e:s.b14 with
  |false=>rfl
  |true=>have:=c.o14 e;simp[h12]at this
 exact
 {be:=c.be.trans (QJ hg c.be.size (fun k e=>(hv.lt k e).1))
  bh:=c.bh.grown hg (Qs hv c.bh (by decide))
  br:=c.br.grown hg (Qs hv c.br (by decide))
  f0:=fun _ e=>by simp at e
  f3:=fun _=>hown
  f4:=fun h1 h2=>QO (c.f4 h1 h2) hv hg (by decide)
  f7:=fun h1=>QO (c.f7 h1) hv hg (by decide)
  f8:=fun h1 h2=>QO (c.f8 h1 h2) hv hg (by decide)
  f11:=fun h1=>QO (c.f11 h1) hv hg (by decide)
  f12:=fun h1=>by simp[h12]at h1
  f13:=c.thirteen h14 rfl rfl (fun g cs hb=>hb.grown hg (Qs hv hb (by decide)))
  d48:=c.d48
  d78:=c.d78
  d711:=c.d711
  o30:=fun _=>h0
  o74:=c.o74
  o118:=c.o118
  o12:=fun h1=>by simp[h12]at h1
  o14:=c.o14}
theorem CpW.s7_ (c:CpW w0 h s W)(hb7:s.b7=false)(h4:s.b4=true)(v':Value)(hown:Qe W' w0.heap.size v' h.ws)(hg:W.grownBy W' s.s9.ownBlock)(hat:v'.ownBlock=s.s9.ownBlock∨v'.ownBlock=some W.heap.size):CpW w0 h {s with b7:=true,s12:=v'} W':=by
 have hv:=c.f4 h4 hb7
 have h11:s.b11=false:=by
  cases e:s.b11 with
  |false=>rfl
  |true=>have:=(c.o118 e).2;simp[hb7]at this
 have h12:s.b12=false:=by
  cases e:s.b12 with
  |false=>rfl
  |true=>have:=(c.o12 e).2.1;simp[hb7]at this
 have h14:s.b14=false:=by
  cases e:s.b14 with
  |false=>rfl
  |true=>have:=c.o14 e;simp[h12]at this
 exact
 {be:=c.be.trans (QJ hg c.be.size (fun k e=>(hv.lt k e).1))
  bh:=c.bh.grown hg (Qs hv c.bh (by decide))
  br:=c.br.grown hg (Qs hv c.br (by decide))
  f0:=fun h1 h2=>QO (c.f0 h1 h2) hv hg (by decide)
  f3:=fun h1=>QO (c.f3 h1) hv hg (by decide)
  f4:=fun _ e=>by simp at e
  f7:=fun _=>hown
  f8:=fun h1 h2=>YK (c.f8 h1 h2) hg (c.d48 h4 hb7 h1 h2).symm
  f11:=fun h1=>by simp[h11]at h1
  f12:=fun h1=>by simp[h12]at h1
  f13:=c.thirteen h14 rfl rfl (fun g cs hb=>hb.grown hg (Qs hv hb (by decide)))
  d48:=fun _ e=>by simp at e
  d78:=fun _ h8 h11'=>(Uh (c.f8 h8 h11') (c.d48 h4 hb7 h8 h11').symm hat).symm
  d711:=fun _ e=>by simp[h11]at e
  o30:=c.o30
  o74:=fun _=>h4
  o118:=fun e=>by simp[h11]at e
  o12:=fun h1=>by simp[h12]at h1
  o14:=c.o14}
theorem CpW.s11_ (c:CpW w0 h s W)(hb11:s.b11=false)(h8:s.b8=true)(h7:s.b7=true)(v':Value)(hown:Qe W' w0.heap.size v' h.ds)(hg:W.grownBy W' s.s13.ownBlock)(hat:v'.ownBlock=s.s13.ownBlock∨v'.ownBlock=some W.heap.size):CpW w0 h {s with b11:=true,s16:=v'} W':=by
 have hv:=c.f8 h8 hb11
 have h12:s.b12=false:=by
  cases e:s.b12 with
  |false=>rfl
  |true=>have:=(c.o12 e).2.2;simp[hb11]at this
 have h14:s.b14=false:=by
  cases e:s.b14 with
  |false=>rfl
  |true=>have:=c.o14 e;simp[h12]at this
 exact
 {be:=c.be.trans (QJ hg c.be.size (fun k e=>(hv.lt k e).1))
  bh:=c.bh.grown hg (Qs hv c.bh (by decide))
  br:=c.br.grown hg (Qs hv c.br (by decide))
  f0:=fun h1 h2=>QO (c.f0 h1 h2) hv hg (by decide)
  f3:=fun h1=>QO (c.f3 h1) hv hg (by decide)
  f4:=fun _ e=>by simp[h7]at e
  f7:=fun h1=>YK (c.f7 h1) hg (c.d78 h1 h8 hb11)
  f8:=fun _ e=>by simp at e
  f11:=fun _=>hown
  f12:=fun h1=>by simp[h12]at h1
  f13:=c.thirteen h14 rfl rfl (fun g cs hb=>hb.grown hg (Qs hv hb (by decide)))
  d48:=fun _ e=>by simp[h7]at e
  d78:=fun _ _ e=>by simp at e
  d711:=fun h1 _=>Uh (c.f7 h1) (c.d78 h1 h8 hb11) hat
  o30:=c.o30
  o74:=c.o74
  o118:=fun _=>⟨h8,h7⟩
  o12:=fun h1=>by simp[h12]at h1
  o14:=c.o14}
theorem CpW.s14_ (c:CpW w0 h s W)(hb14:s.b14=false)(h12:s.b12=true)(h13:s.b13=true){g:Nat}(hs3:s.s3=.pointer (some ⟨g,0,none⟩)):
 CpW w0 h {s with b14:=true} ((((W.setCell ⟨g,0,none⟩ (.slice none 0 0)).setCell ⟨g,1,none⟩ s.s8).setCell ⟨g,2,none⟩ s.s12).setCell ⟨g,3,none⟩ s.s16):=by
 obtain⟨g',e1,e2,e3⟩:=c.f13 h13;rw[hs3]at e1;simp only[Value.pointer.injEq,Option.some.injEq,Addr.mk.injEq,and_true]at e1;subst e1;have n1:¬s.b14=true:=by simp[hb14]
 rw[if_neg n1]at e3;obtain⟨hk,hb⟩:=QR e3 (.slice none 0 0) s.s8 s.s12 s.s16;have o4:∀(E t:Nat) (cs:List Value),Blk W E cs t→E≠g→Blk ((((W.setCell ⟨g,0,none⟩ (.slice none 0 0)).setCell ⟨g,1,none⟩ s.s8).setCell ⟨g,2,none⟩ s.s12).setCell ⟨g,3,none⟩ s.s16) E cs t:=fun E t cs h e=>(((h.other ⟨g,0,none⟩ _ e).other ⟨g,1,none⟩ _ e).other ⟨g,2,none⟩ _ e).other ⟨g,3,none⟩ _ e;exact
 {be:=ZS c.be (by omega) _ _ _ _
  bh:=o4 _ _ _ c.bh (by omega)
  br:=o4 _ _ _ c.br (by omega)
  f0:=fun h1 h2=>Qm (c.f0 h1 h2) hk (by decide)
  f3:=fun h1=>Qm (c.f3 h1) hk (by decide)
  f4:=fun h1 h2=>Qm (c.f4 h1 h2) hk (by decide)
  f7:=fun h1=>Qm (c.f7 h1) hk (by decide)
  f8:=fun h1 h2=>Qm (c.f8 h1 h2) hk (by decide)
  f11:=fun h1=>Qm (c.f11 h1) hk (by decide)
  f12:=c.f12
  f13:=fun _=>⟨g,hs3,e2,by simpa using hb⟩
  d48:=c.d48
  d78:=c.d78
  d711:=c.d711
  o30:=c.o30
  o74:=c.o74
  o118:=c.o118
  o12:=c.o12
  o14:=fun _=>⟨h12,h13⟩}
end
end Go.Proofs.YtcpnkpogebjieaaGreat
