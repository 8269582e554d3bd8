/- The specification's own copy of a heap: what each operation of its first region does to -/
import Derived.Test.YtcpnkpogebjieaaGreatG28Dd
open Go.Value renaming slice→Qhp
open Go.Obj renaming cells→Qhq
namespace Go.Proofs.YtcpnkpogebjieaaGreat
section
open Go.RowKit
variable {w0:World} {h:Hp} {s:ZM} {W W':World}
theorem Qz (W:World)(o:Obj):Below W.heap.size W (W.alloc o):=(Below.refl _ _).alloc (Nat.le_refl _) _
theorem CpW.s0 (c:CpW w0 h s W)(hb:s.b3=false):CpW w0 h {s with b0:=true,s5:=.slice (some ⟨W.heap.size,0,none⟩) 0 0} (W.alloc (Qhq #[] 3)):=by
 have k:=c.step (Qz W (Qhq #[] 3))
 have hn:=World.ownsRow_lit (e:=3) (size:=1) (base:=w0.heap.size) W #[] 0 c.be.size (Nat.zero_le _) rfl
 exact {k with f0:=fun _ _=>hn,o30:=fun e=>by simp[hb]at e}
theorem CpW.s4 (c:CpW w0 h s W)(hb:s.b7=false):CpW w0 h {s with b4:=true,s9:=.slice (some ⟨W.heap.size,0,none⟩) 0 0} (W.alloc (Qhq #[] 40)):=by
 have k:=c.step (Qz W (Qhq #[] 40))
 have hn:=World.ownsRow_lit (e:=40) (size:=2) (base:=w0.heap.size) W #[] 0 c.be.size (Nat.zero_le _) rfl
 exact {k with f4:=fun _ _=>hn,d48:=fun _ _ h8 h11=>(VS (c.f8 h8 h11) (Nat.le_refl _)).symm,o74:=fun e=>by simp[hb]at e}
theorem CpW.s8_ (c:CpW w0 h s W)(hb:s.b11=false):CpW w0 h {s with b8:=true,s13:=.slice (some ⟨W.heap.size,0,none⟩) 0 0} (W.alloc (Qhq #[] 40)):=by
 have k:=c.step (Qz W (Qhq #[] 40))
 have hn:=World.ownsRow_lit (e:=40) (size:=2) (base:=w0.heap.size) W #[] 0 c.be.size (Nat.zero_le _) rfl
 exact {k with f8:=fun _ _=>hn,d48:=fun h4 h7 _ _=>VS (c.f4 h4 h7) (Nat.le_refl _),d78:=fun h7 _ _=>VS (c.f7 h7) (Nat.le_refl _),o118:=fun e=>by simp[hb]at e}
theorem CpW.s13_ (c:CpW w0 h s W)(hb:s.b14=false):CpW w0 h {s with b13:=true,s3:=.pointer (some ⟨W.heap.size,0,none⟩)} (W.alloc (Qhq #[Qhp none 0 0,Qhp none 0 0,Qhp none 0 0,Qhp none 0 0] 27)):=by
 have k:=c.step (Qz W (Qhq #[Qhp none 0 0,Qhp none 0 0,Qhp none 0 0,Qhp none 0 0] 27))
 refine {k with f13:=fun _=>⟨W.heap.size,rfl,c.br.lt,?_⟩,o14:=fun e=>by simp[hb]at e}
 have:(if s.b14=true then [Qhp none 0 0,s.s8,s.s12,s.s16]else [Qhp none 0 0,Qhp none 0 0,Qhp none 0 0,Qhp none 0 0])=[Qhp none 0 0,Qhp none 0 0,Qhp none 0 0,Qhp none 0 0]:=by rw[hb];rfl
 show Blk _ _ (if s.b14=true then _ else _) _
 rw[this]
 exact Blk.new W _ _
theorem CpW.s12_ (c:CpW w0 h s W)(h3:s.b3=true)(h7:s.b7=true)(h11:s.b11=true):CpW w0 h {s with b12:=true,s17:=.agg #[.slice none 0 0,s.s8,s.s12,s.s16]} W:=
 {c with f12:=fun _=>rfl,o12:=fun _=>⟨h3,h7,h11⟩,o14:=fun e=>⟨rfl,(c.o14 e).2⟩}
theorem CpW.thirteen (c:CpW w0 h s W)(h14:s.b14=false){W':World}{vs:ZM}(hs3:vs.s3=s.s3)(hb14:vs.b14=s.b14)(hk:∀g cs,Blk W g cs 27→Blk W' g cs 27)(h13:s.b13=true):
 ∃g,vs.s3=.pointer (some ⟨g,0,none⟩)∧w0.heap.size+1+1≤g∧Blk W' g (if vs.b14=true then [.slice none 0 0,vs.s8,vs.s12,vs.s16]else [Qhp none 0 0,Qhp none 0 0,Qhp none 0 0,Qhp none 0 0]) 27:=by
 obtain⟨g,e1,e2,e3⟩:=c.f13 h13
 have n1:¬s.b14=true:=by simp[h14]
 have n2:¬vs.b14=true:=by simp[hb14,h14]
 rw[if_neg n1]at e3
 refine⟨g,by rw[hs3];exact e1,e2,?_⟩
 rw[if_neg n2]
 exact hk g _ e3
theorem CpW.s3_ (c:CpW w0 h s W)(hb3:s.b3=false)(h0:s.b0=true)(v':Value)(hown:Qa W' w0.heap.size v' h.rs)(hg:W.grownBy W' s.s5.ownBlock):CpW w0 h {s with b3:=true,s8:=v'} W':=by
 have hv:=c.f0 h0 hb3
 have h12:s.b12=false:=by
  cases e:s.b12 with
  |false=>rfl
  |true=>have:=(c.o12 e).1;simp[hb3]at this
 have h14:s.b14=false:=by
  cases e:s.b14 with
  |false=>rfl
  |true=>have:=c.o14 e;simp[h12]at this
 exact
 {be:=c.be.trans (QL hg c.be.size (fun k e=>(hv.lt k e).1))
  bh:=c.bh.grown hg (Qr hv c.bh (by decide))
  br:=c.br.grown hg (Qr hv c.br (by decide))
  f0:=fun _ e=>by simp at e
  f3:=fun _=>hown
  f4:=fun h1 h2=>QK (c.f4 h1 h2) hv hg (by decide)
  f7:=fun h1=>QK (c.f7 h1) hv hg (by decide)
  f8:=fun h1 h2=>QK (c.f8 h1 h2) hv hg (by decide)
  f11:=fun h1=>QK (c.f11 h1) hv hg (by decide)
  f12:=fun h1=>by simp[h12]at h1
  f13:=c.thirteen h14 rfl rfl (fun g cs hb=>hb.grown hg (Qr hv hb (by decide)))
  d48:=c.d48
  d78:=c.d78
  d711:=c.d711
  o30:=fun _=>h0
  o74:=c.o74
  o118:=c.o118
  o12:=fun h1=>by simp[h12]at h1
  o14:=c.o14}
theorem CpW.s7_ (c:CpW w0 h s W)(hb7:s.b7=false)(h4:s.b4=true)(v':Value)(hown:Qe W' w0.heap.size v' h.ws)(hg:W.grownBy W' s.s9.ownBlock)(hat:v'.ownBlock=s.s9.ownBlock∨v'.ownBlock=some W.heap.size):CpW w0 h {s with b7:=true,s12:=v'} W':=by
 have hv:=c.f4 h4 hb7
 have h11:s.b11=false:=by
  cases e:s.b11 with
  |false=>rfl
  |true=>have:=(c.o118 e).2;simp[hb7]at this
 have h12:s.b12=false:=by
  cases e:s.b12 with
  |false=>rfl
  |true=>have:=(c.o12 e).2.1;simp[hb7]at this
 have h14:s.b14=false:=by
  cases e:s.b14 with
  |false=>rfl
  |true=>have:=c.o14 e;simp[h12]at this
 exact
 {be:=c.be.trans (QL hg c.be.size (fun k e=>(hv.lt k e).1))
  bh:=c.bh.grown hg (Qr hv c.bh (by decide))
  br:=c.br.grown hg (Qr hv c.br (by decide))
  f0:=fun h1 h2=>QK (c.f0 h1 h2) hv hg (by decide)
  f3:=fun h1=>QK (c.f3 h1) hv hg (by decide)
  f4:=fun _ e=>by simp at e
  f7:=fun _=>hown
  f8:=fun h1 h2=>YC (c.f8 h1 h2) hg (c.d48 h4 hb7 h1 h2).symm
  f11:=fun h1=>by simp[h11]at h1
  f12:=fun h1=>by simp[h12]at h1
  f13:=c.thirteen h14 rfl rfl (fun g cs hb=>hb.grown hg (Qr hv hb (by decide)))
  d48:=fun _ e=>by simp at e
  d78:=fun _ h8 h11'=>(Y2 (c.f8 h8 h11') (c.d48 h4 hb7 h8 h11').symm hat).symm
  d711:=fun _ e=>by simp[h11]at e
  o30:=c.o30
  o74:=fun _=>h4
  o118:=fun e=>by simp[h11]at e
  o12:=fun h1=>by simp[h12]at h1
  o14:=c.o14}
theorem CpW.s11_ (c:CpW w0 h s W)(hb11:s.b11=false)(h8:s.b8=true)(h7:s.b7=true)(v':Value)(hown:Qe W' w0.heap.size v' h.ds)(hg:W.grownBy W' s.s13.ownBlock)(hat:v'.ownBlock=s.s13.ownBlock∨v'.ownBlock=some W.heap.size):CpW w0 h {s with b11:=true,s16:=v'} W':=by
 have hv:=c.f8 h8 hb11
 have h12:s.b12=false:=by
  cases e:s.b12 with
  |false=>rfl
  |true=>have:=(c.o12 e).2.2;simp[hb11]at this
 have h14:s.b14=false:=by
  cases e:s.b14 with
  |false=>rfl
  |true=>have:=c.o14 e;simp[h12]at this
 exact
 {be:=c.be.trans (QL hg c.be.size (fun k e=>(hv.lt k e).1))
  bh:=c.bh.grown hg (Qr hv c.bh (by decide))
  br:=c.br.grown hg (Qr hv c.br (by decide))
  f0:=fun h1 h2=>QK (c.f0 h1 h2) hv hg (by decide)
  f3:=fun h1=>QK (c.f3 h1) hv hg (by decide)
  f4:=fun _ e=>by simp[h7]at e
  f7:=fun h1=>YC (c.f7 h1) hg (c.d78 h1 h8 hb11)
  f8:=fun _ e=>by simp at e
  f11:=fun _=>hown
  f12:=fun h1=>by simp[h12]at h1
  f13:=c.thirteen h14 rfl rfl (fun g cs hb=>hb.grown hg (Qr hv hb (by decide)))
  d48:=fun _ e=>by simp[h7]at e
  d78:=fun _ _ e=>by simp at e
  d711:=fun h1 _=>Y2 (c.f7 h1) (c.d78 h1 h8 hb11) hat
  o30:=c.o30
  o74:=c.o74
  o118:=fun _=>⟨h8,h7⟩
  o12:=fun h1=>by simp[h12]at h1
  o14:=c.o14}
theorem CpW.s14_ (c:CpW w0 h s W)(hb14:s.b14=false)(h12:s.b12=true)(h13:s.b13=true){g:Nat}(hs3:s.s3=.pointer (some ⟨g,0,none⟩)):
 CpW w0 h {s with b14:=true} ((((W.setCell ⟨g,0,none⟩ (.slice none 0 0)).setCell ⟨g,1,none⟩ s.s8).setCell ⟨g,2,none⟩ s.s12).setCell ⟨g,3,none⟩ s.s16):=by
 obtain⟨g',e1,e2,e3⟩:=c.f13 h13
 rw[hs3]at e1
 simp only[Value.pointer.injEq,Option.some.injEq,Addr.mk.injEq,and_true]at e1
 subst e1
 have n1:¬s.b14=true:=by simp[hb14]
 rw[if_neg n1]at e3
 obtain⟨hk,hb⟩:=Q8 e3 (.slice none 0 0) s.s8 s.s12 s.s16
 have o4:∀(E t:Nat) (cs:List Value),Blk W E cs t→E≠g→Blk ((((W.setCell ⟨g,0,none⟩ (.slice none 0 0)).setCell ⟨g,1,none⟩ s.s8).setCell ⟨g,2,none⟩ s.s12).setCell ⟨g,3,none⟩ s.s16) E cs t:=fun E t cs h e=>(((h.other ⟨g,0,none⟩ _ e).other ⟨g,1,none⟩ _ e).other ⟨g,2,none⟩ _ e).other ⟨g,3,none⟩ _ e
 exact
 {be:=Z0 c.be (by omega) _ _ _ _
  bh:=o4 _ _ _ c.bh (by omega)
  br:=o4 _ _ _ c.br (by omega)
  f0:=fun h1 h2=>Qm (c.f0 h1 h2) hk (by decide)
  f3:=fun h1=>Qm (c.f3 h1) hk (by decide)
  f4:=fun h1 h2=>Qm (c.f4 h1 h2) hk (by decide)
  f7:=fun h1=>Qm (c.f7 h1) hk (by decide)
  f8:=fun h1 h2=>Qm (c.f8 h1 h2) hk (by decide)
  f11:=fun h1=>Qm (c.f11 h1) hk (by decide)
  f12:=c.f12
  f13:=fun _=>⟨g,hs3,e2,by simpa using hb⟩
  d48:=c.d48
  d78:=c.d78
  d711:=c.d711
  o30:=c.o30
  o74:=c.o74
  o118:=c.o118
  o12:=c.o12
  o14:=fun _=>⟨h12,h13⟩}
end
end Go.Proofs.YtcpnkpogebjieaaGreat
