/- The specification's own copy of a heap: its first region, which draws its order, by an invariant. · The specification's own copy of a heap: what each operation of its first region does to what is held. -/
import Derived.Test.YtcpnkpogebjieaaDbToDc
import Derived.Test.YtcpnkpogebjieaaIm
namespace Go.Proofs.Ytcpnkpogebjieaa
open Go.RowKit

structure CpSt where
  b0 : Bool
  b3 : Bool
  b4 : Bool
  b7 : Bool
  b8 : Bool
  b11 : Bool
  b12 : Bool
  b13 : Bool
  b14 : Bool
  s3 : Value
  s5 : Value
  s8 : Value
  s9 : Value
  s12 : Value
  s13 : Value
  s16 : Value
  s17 : Value
def CpSt.arr (s : CpSt) : Array Bool := #[s.b0, true, true, s.b3, s.b4, true, true, s.b7, s.b8, true, true, s.b11, s.b12, s.b13, s.b14]
/-- Two rows are two. -/
def Apart (u v : Value) : Prop := ∀ k, u.ownBlock = some k → v.ownBlock ≠ some k
structure CpW (w0 : World) (h : Hp) (s : CpSt) (W : World) : Prop where
  be : Below w0.heap.size w0 W
  bh : Blk W w0.heap.size [Value.slice h.oa h.os.length h.ocap, Value.slice h.ra h.rs.length h.rcap, Value.slice h.wa h.ws.length h.wcap, Value.slice h.da h.ds.length h.dcap] 27
  br : Blk W (w0.heap.size + 1) [Value.slice none 0 0, Value.slice none 0 0, Value.slice none 0 0, Value.slice none 0 0] 27
  f0 : s.b0 = true → s.b3 = false → OwnL W w0.heap.size s.s5 []
  f3 : s.b3 = true → OwnL W w0.heap.size s.s8 h.rs
  f4 : s.b4 = true → s.b7 = false → OwnW W w0.heap.size s.s9 []
  f7 : s.b7 = true → OwnW W w0.heap.size s.s12 h.ws
  f8 : s.b8 = true → s.b11 = false → OwnW W w0.heap.size s.s13 []
  f11 : s.b11 = true → OwnW W w0.heap.size s.s16 h.ds
  f12 : s.b12 = true → s.s17 = .agg #[.slice none 0 0, s.s8, s.s12, s.s16]
  f13 : s.b13 = true → ∃ g, s.s3 = .pointer (some ⟨g, 0, none⟩) ∧ w0.heap.size + 1 + 1 ≤ g ∧ Blk W g (if s.b14 = true then [.slice none 0 0, s.s8, s.s12, s.s16] else [Value.slice none 0 0, Value.slice none 0 0, Value.slice none 0 0, Value.slice none 0 0]) 27
  d48 : s.b4 = true → s.b7 = false → s.b8 = true → s.b11 = false → Apart s.s9 s.s13
  d78 : s.b7 = true → s.b8 = true → s.b11 = false → Apart s.s12 s.s13
  d711 : s.b7 = true → s.b11 = true → Apart s.s12 s.s16
  o30 : s.b3 = true → s.b0 = true
  o74 : s.b7 = true → s.b4 = true
  o118 : s.b11 = true → s.b8 = true ∧ s.b7 = true
  o12 : s.b12 = true → s.b3 = true ∧ s.b7 = true ∧ s.b11 = true
  o14 : s.b14 = true → s.b12 = true ∧ s.b13 = true

/-- All that is held stays over a step that turns nothing old. -/
theorem CpW.step {w0 : World} {h : Hp} {s : CpSt} {W W' : World} (c : CpW w0 h s W) (hb : Below W.heap.size W W') : CpW w0 h s W' where
  be := c.be.trans (hb.mono c.be.size)
  bh := c.bh.step hb
  br := c.br.step hb
  f0 := fun h1 h2 => (c.f0 h1 h2).below hb (Nat.le_refl _)
  f3 := fun h1 => (c.f3 h1).below hb (Nat.le_refl _)
  f4 := fun h1 h2 => (c.f4 h1 h2).below hb (Nat.le_refl _)
  f7 := fun h1 => (c.f7 h1).below hb (Nat.le_refl _)
  f8 := fun h1 h2 => (c.f8 h1 h2).below hb (Nat.le_refl _)
  f11 := fun h1 => (c.f11 h1).below hb (Nat.le_refl _)
  f12 := c.f12
  f13 := fun h1 => by
    obtain ⟨g, e1, e2, e3⟩ := c.f13 h1
    exact ⟨g, e1, e2, e3.step hb⟩
  d48 := c.d48
  d78 := c.d78
  d711 := c.d711
  o30 := c.o30
  o74 := c.o74
  o118 := c.o118
  o12 := c.o12
  o14 := c.o14
/-- Over a step that turns one row of another element type. -/
theorem row_kept {W W' : World} {base e size n base' e' size' n' : Nat} {v v' : Value} {xs xs' : List Value} (h : W.ownsRow base e size v n xs) (h' : W.ownsRow base' e' size' v' n' xs') (hg : W.grownBy W' v'.ownBlock) (he : e ≠ e') : W'.ownsRow base e size v n xs := World.ownsRow.kept h hg (row_ne h h' he)
theorem row_apart {W W' : World} {base e size n : Nat} {v v' : Value} {xs : List Value} (h : W.ownsRow base e size v n xs) (hg : W.grownBy W' v'.ownBlock) (hap : Apart v v') : W'.ownsRow base e size v n xs := World.ownsRow.kept h hg (by
  cases hv : v.ownBlock with
  | none => exact Or.inl rfl
  | some k => exact Or.inr fun e => hap k hv e.symm)
theorem Apart.symm {u v : Value} (h : Apart u v) : Apart v u := fun k hk e => h k e hk
theorem apart_new {W : World} {base e size n g c m : Nat} {v : Value} {xs : List Value} (h : W.ownsRow base e size v n xs) (hg : W.heap.size ≤ g) : Apart v (.slice (some ⟨g, 0, none⟩) m c) := fun k hk e => by
  have := (h.lt k hk).2
  simp [Value.ownBlock] at e
  omega
/-- Where the new row lies. -/
theorem apart_at {W : World} {base e size n : Nat} {u v v' : Value} {xs : List Value} (hu : W.ownsRow base e size u n xs) (hap : Apart u v) (hat : v'.ownBlock = v.ownBlock ∨ v'.ownBlock = some W.heap.size) : Apart u v' := fun k hk e => by
  rcases hat with h | h
  · exact hap k hk (h ▸ e)
  · rw [h] at e
    have := (hu.lt k hk).2
    simp at e
    omega

/-- A heap in rows of its own, no two the same. -/
structure OwnQ (w : World) (B : Nat) (h : Hp) : Prop where
  ob : OwnB w B (.slice h.oa h.os.length h.ocap) h.os
  rs : ∀ i (hi : i < h.os.length), OwnL w B h.os[i].rv h.os[i].r
  rne : ∀ i j (hi : i < h.os.length) (hj : j < h.os.length), i ≠ j → Apart h.os[i].rv h.os[j].rv
  ro : OwnL w B (.slice h.ra h.rs.length h.rcap) h.rs
  rro : ∀ i (hi : i < h.os.length), Apart h.os[i].rv (.slice h.ra h.rs.length h.rcap)
  wa : OwnW w B (.slice h.wa h.ws.length h.wcap) h.ws
  da : OwnW w B (.slice h.da h.ds.length h.dcap) h.ds
  wne : Apart (.slice h.wa h.ws.length h.wcap) (.slice h.da h.ds.length h.dcap)
theorem OwnQ.isIn {w : World} {B : Nat} {h : Hp} (hh : OwnQ w B h) : HpIn w h := by
  refine ⟨?_, ?_, ?_, ?_⟩
  · obtain ⟨a, cap, e, _, hs⟩ := hh.ob.form
    simp only [Value.slice.injEq] at e
    rw [e.1]
    refine hs fun i hi => ?_
    obtain ⟨a, cap, e, hs, _⟩ := (hh.rs i hi).form
    simp only [Ob.rv, Value.slice.injEq] at e
    rw [e.1]; exact hs
  · obtain ⟨a, cap, e, hs, _⟩ := hh.ro.form
    simp only [Value.slice.injEq] at e
    rw [e.1]; exact hs
  · obtain ⟨a, cap, e, hs, _⟩ := hh.wa.form
    simp only [Value.slice.injEq] at e
    rw [e.1]; exact hs
  · obtain ⟨a, cap, e, hs, _⟩ := hh.da.form
    simp only [Value.slice.injEq] at e
    rw [e.1]; exact hs
theorem OwnQ.below {w w' : World} {B C : Nat} {h : Hp} (hh : OwnQ w B h) (hb : Below C w w') (hC : w.heap.size ≤ C) : OwnQ w' B h :=
  ⟨hh.ob.below hb hC, fun i hi => (hh.rs i hi).below hb hC, hh.rne, hh.ro.below hb hC, hh.rro, hh.wa.below hb hC, hh.da.below hb hC, hh.wne⟩
theorem OwnQ.keep {A C : World} {B : Nat} {h : Hp} (hh : OwnQ A B h) (hk : KeepT 27 A C) : OwnQ C B h :=
  ⟨row_keep hh.ob hk (by decide), fun i hi => row_keep (hh.rs i hi) hk (by decide), hh.rne, row_keep hh.ro hk (by decide), hh.rro, row_keep hh.wa hk (by decide), row_keep hh.da hk (by decide), hh.wne⟩
end Go.Proofs.Ytcpnkpogebjieaa

namespace Go.Proofs.Ytcpnkpogebjieaa
open Go.RowKit

variable {w0 : World} {h : Hp} {s : CpSt} {W W' : World}

theorem al_below (W : World) (o : Obj) : Below W.heap.size W (W.alloc o) := (Below.refl _ _).alloc (Nat.le_refl _) _

theorem CpW.s0 (c : CpW w0 h s W) (hb : s.b3 = false) : CpW w0 h { s with b0 := true, s5 := .slice (some ⟨W.heap.size, 0, none⟩) 0 0 } (W.alloc (Obj.cells #[] 3)) := by
  have k := c.step (al_below W (Obj.cells #[] 3))
  have hn := World.ownsRow_lit (e := 3) (size := 1) (base := w0.heap.size) W #[] 0 c.be.size (Nat.zero_le _) rfl
  exact { k with f0 := fun _ _ => hn, o30 := fun e => by simp [hb] at e }
theorem CpW.s4 (c : CpW w0 h s W) (hb : s.b7 = false) : CpW w0 h { s with b4 := true, s9 := .slice (some ⟨W.heap.size, 0, none⟩) 0 0 } (W.alloc (Obj.cells #[] 77)) := by
  have k := c.step (al_below W (Obj.cells #[] 77))
  have hn := World.ownsRow_lit (e := 77) (size := 2) (base := w0.heap.size) W #[] 0 c.be.size (Nat.zero_le _) rfl
  exact { k with f4 := fun _ _ => hn, d48 := fun _ _ h8 h11 => (apart_new (c.f8 h8 h11) (Nat.le_refl _)).symm, o74 := fun e => by simp [hb] at e }
theorem CpW.s8_ (c : CpW w0 h s W) (hb : s.b11 = false) : CpW w0 h { s with b8 := true, s13 := .slice (some ⟨W.heap.size, 0, none⟩) 0 0 } (W.alloc (Obj.cells #[] 77)) := by
  have k := c.step (al_below W (Obj.cells #[] 77))
  have hn := World.ownsRow_lit (e := 77) (size := 2) (base := w0.heap.size) W #[] 0 c.be.size (Nat.zero_le _) rfl
  exact { k with f8 := fun _ _ => hn, d48 := fun h4 h7 _ _ => apart_new (c.f4 h4 h7) (Nat.le_refl _), d78 := fun h7 _ _ => apart_new (c.f7 h7) (Nat.le_refl _), o118 := fun e => by simp [hb] at e }
theorem CpW.s13_ (c : CpW w0 h s W) (hb : s.b14 = false) : CpW w0 h { s with b13 := true, s3 := .pointer (some ⟨W.heap.size, 0, none⟩) } (W.alloc (Obj.cells #[Value.slice none 0 0, Value.slice none 0 0, Value.slice none 0 0, Value.slice none 0 0] 27)) := by
  have k := c.step (al_below W (Obj.cells #[Value.slice none 0 0, Value.slice none 0 0, Value.slice none 0 0, Value.slice none 0 0] 27))
  refine { k with f13 := fun _ => ⟨W.heap.size, rfl, c.br.lt, ?_⟩, o14 := fun e => by simp [hb] at e }
  have : (if s.b14 = true then [Value.slice none 0 0, s.s8, s.s12, s.s16] else [Value.slice none 0 0, Value.slice none 0 0, Value.slice none 0 0, Value.slice none 0 0]) = [Value.slice none 0 0, Value.slice none 0 0, Value.slice none 0 0, Value.slice none 0 0] := by rw [hb]; rfl
  show Blk _ _ (if s.b14 = true then _ else _) _
  rw [this]
  exact Blk.new W _ _
theorem CpW.s12_ (c : CpW w0 h s W) (h3 : s.b3 = true) (h7 : s.b7 = true) (h11 : s.b11 = true) : CpW w0 h { s with b12 := true, s17 := .agg #[.slice none 0 0, s.s8, s.s12, s.s16] } W :=
  { c with f12 := fun _ => rfl, o12 := fun _ => ⟨h3, h7, h11⟩, o14 := fun e => ⟨rfl, (c.o14 e).2⟩ }

/-- The block of the variable x. -/
theorem CpW.thirteen (c : CpW w0 h s W) (h14 : s.b14 = false) {W' : World} {vs : CpSt} (hs3 : vs.s3 = s.s3) (hb14 : vs.b14 = s.b14) (hk : ∀ g cs, Blk W g cs 27 → Blk W' g cs 27) (h13 : s.b13 = true) :
    ∃ g, vs.s3 = .pointer (some ⟨g, 0, none⟩) ∧ w0.heap.size + 1 + 1 ≤ g ∧ Blk W' g (if vs.b14 = true then [.slice none 0 0, vs.s8, vs.s12, vs.s16] else [Value.slice none 0 0, Value.slice none 0 0, Value.slice none 0 0, Value.slice none 0 0]) 27 := by
  obtain ⟨g, e1, e2, e3⟩ := c.f13 h13
  have n1 : ¬ s.b14 = true := by simp [h14]
  have n2 : ¬ vs.b14 = true := by simp [hb14, h14]
  rw [if_neg n1] at e3
  refine ⟨g, by rw [hs3]; exact e1, e2, ?_⟩
  rw [if_neg n2]
  exact hk g _ e3

/-- append of the roots. -/
theorem CpW.s3_ (c : CpW w0 h s W) (hb3 : s.b3 = false) (h0 : s.b0 = true) (v' : Value) (hown : OwnL W' w0.heap.size v' h.rs) (hg : W.grownBy W' s.s5.ownBlock) : CpW w0 h { s with b3 := true, s8 := v' } W' := by
  have hv := c.f0 h0 hb3
  have h12 : s.b12 = false := by
    cases e : s.b12 with
    | false => rfl
    | true => have := (c.o12 e).1; simp [hb3] at this
  have h14 : s.b14 = false := by
    cases e : s.b14 with
    | false => rfl
    | true => have := c.o14 e; simp [h12] at this
  exact
  { be := c.be.trans (gb_below hg c.be.size (fun k e => (hv.lt k e).1))
    bh := c.bh.grown hg (row_ne_blk hv c.bh (by decide))
    br := c.br.grown hg (row_ne_blk hv c.br (by decide))
    f0 := fun _ e => by simp at e
    f3 := fun _ => hown
    f4 := fun h1 h2 => row_kept (c.f4 h1 h2) hv hg (by decide)
    f7 := fun h1 => row_kept (c.f7 h1) hv hg (by decide)
    f8 := fun h1 h2 => row_kept (c.f8 h1 h2) hv hg (by decide)
    f11 := fun h1 => row_kept (c.f11 h1) hv hg (by decide)
    f12 := fun h1 => by simp [h12] at h1
    f13 := c.thirteen h14 rfl rfl (fun g cs hb => hb.grown hg (row_ne_blk hv hb (by decide)))
    d48 := c.d48
    d78 := c.d78
    d711 := c.d711
    o30 := fun _ => h0
    o74 := c.o74
    o118 := c.o118
    o12 := fun h1 => by simp [h12] at h1
    o14 := c.o14 }
/-- append of what is watched. -/
theorem CpW.s7_ (c : CpW w0 h s W) (hb7 : s.b7 = false) (h4 : s.b4 = true) (v' : Value) (hown : OwnW W' w0.heap.size v' h.ws) (hg : W.grownBy W' s.s9.ownBlock) (hat : v'.ownBlock = s.s9.ownBlock ∨ v'.ownBlock = some W.heap.size) : CpW w0 h { s with b7 := true, s12 := v' } W' := by
  have hv := c.f4 h4 hb7
  have h11 : s.b11 = false := by
    cases e : s.b11 with
    | false => rfl
    | true => have := (c.o118 e).2; simp [hb7] at this
  have h12 : s.b12 = false := by
    cases e : s.b12 with
    | false => rfl
    | true => have := (c.o12 e).2.1; simp [hb7] at this
  have h14 : s.b14 = false := by
    cases e : s.b14 with
    | false => rfl
    | true => have := c.o14 e; simp [h12] at this
  exact
  { be := c.be.trans (gb_below hg c.be.size (fun k e => (hv.lt k e).1))
    bh := c.bh.grown hg (row_ne_blk hv c.bh (by decide))
    br := c.br.grown hg (row_ne_blk hv c.br (by decide))
    f0 := fun h1 h2 => row_kept (c.f0 h1 h2) hv hg (by decide)
    f3 := fun h1 => row_kept (c.f3 h1) hv hg (by decide)
    f4 := fun _ e => by simp at e
    f7 := fun _ => hown
    f8 := fun h1 h2 => row_apart (c.f8 h1 h2) hg (c.d48 h4 hb7 h1 h2).symm
    f11 := fun h1 => by simp [h11] at h1
    f12 := fun h1 => by simp [h12] at h1
    f13 := c.thirteen h14 rfl rfl (fun g cs hb => hb.grown hg (row_ne_blk hv hb (by decide)))
    d48 := fun _ e => by simp at e
    d78 := fun _ h8 h11' => (apart_at (c.f8 h8 h11') (c.d48 h4 hb7 h8 h11').symm hat).symm
    d711 := fun _ e => by simp [h11] at e
    o30 := c.o30
    o74 := fun _ => h4
    o118 := fun e => by simp [h11] at e
    o12 := fun h1 => by simp [h12] at h1
    o14 := c.o14 }
/-- append of what was told. -/
theorem CpW.s11_ (c : CpW w0 h s W) (hb11 : s.b11 = false) (h8 : s.b8 = true) (h7 : s.b7 = true) (v' : Value) (hown : OwnW W' w0.heap.size v' h.ds) (hg : W.grownBy W' s.s13.ownBlock) (hat : v'.ownBlock = s.s13.ownBlock ∨ v'.ownBlock = some W.heap.size) : CpW w0 h { s with b11 := true, s16 := v' } W' := by
  have hv := c.f8 h8 hb11
  have h12 : s.b12 = false := by
    cases e : s.b12 with
    | false => rfl
    | true => have := (c.o12 e).2.2; simp [hb11] at this
  have h14 : s.b14 = false := by
    cases e : s.b14 with
    | false => rfl
    | true => have := c.o14 e; simp [h12] at this
  exact
  { be := c.be.trans (gb_below hg c.be.size (fun k e => (hv.lt k e).1))
    bh := c.bh.grown hg (row_ne_blk hv c.bh (by decide))
    br := c.br.grown hg (row_ne_blk hv c.br (by decide))
    f0 := fun h1 h2 => row_kept (c.f0 h1 h2) hv hg (by decide)
    f3 := fun h1 => row_kept (c.f3 h1) hv hg (by decide)
    f4 := fun _ e => by simp [h7] at e
    f7 := fun h1 => row_apart (c.f7 h1) hg (c.d78 h1 h8 hb11)
    f8 := fun _ e => by simp at e
    f11 := fun _ => hown
    f12 := fun h1 => by simp [h12] at h1
    f13 := c.thirteen h14 rfl rfl (fun g cs hb => hb.grown hg (row_ne_blk hv hb (by decide)))
    d48 := fun _ e => by simp [h7] at e
    d78 := fun _ _ e => by simp at e
    d711 := fun h1 _ => apart_at (c.f7 h1) (c.d78 h1 h8 hb11) hat
    o30 := c.o30
    o74 := c.o74
    o118 := fun _ => ⟨h8, h7⟩
    o12 := fun h1 => by simp [h12] at h1
    o14 := c.o14 }
/-- The store into x. -/
theorem CpW.s14_ (c : CpW w0 h s W) (hb14 : s.b14 = false) (h12 : s.b12 = true) (h13 : s.b13 = true) {g : Nat} (hs3 : s.s3 = .pointer (some ⟨g, 0, none⟩)) :
    CpW w0 h { s with b14 := true } ((((W.setCell ⟨g, 0, none⟩ (.slice none 0 0)).setCell ⟨g, 1, none⟩ s.s8).setCell ⟨g, 2, none⟩ s.s12).setCell ⟨g, 3, none⟩ s.s16) := by
  obtain ⟨g', e1, e2, e3⟩ := c.f13 h13
  rw [hs3] at e1
  simp only [Value.pointer.injEq, Option.some.injEq, Addr.mk.injEq, and_true] at e1
  subst e1
  have n1 : ¬ s.b14 = true := by simp [hb14]
  rw [if_neg n1] at e3
  obtain ⟨hk, hb⟩ := put4 e3 (.slice none 0 0) s.s8 s.s12 s.s16
  have o4 : ∀ (E t : Nat) (cs : List Value), Blk W E cs t → E ≠ g → Blk ((((W.setCell ⟨g, 0, none⟩ (.slice none 0 0)).setCell ⟨g, 1, none⟩ s.s8).setCell ⟨g, 2, none⟩ s.s12).setCell ⟨g, 3, none⟩ s.s16) E cs t := fun E t cs h e => (((h.other ⟨g, 0, none⟩ _ e).other ⟨g, 1, none⟩ _ e).other ⟨g, 2, none⟩ _ e).other ⟨g, 3, none⟩ _ e
  exact
  { be := below4 c.be (by omega) _ _ _ _
    bh := o4 _ _ _ c.bh (by omega)
    br := o4 _ _ _ c.br (by omega)
    f0 := fun h1 h2 => row_keep (c.f0 h1 h2) hk (by decide)
    f3 := fun h1 => row_keep (c.f3 h1) hk (by decide)
    f4 := fun h1 h2 => row_keep (c.f4 h1 h2) hk (by decide)
    f7 := fun h1 => row_keep (c.f7 h1) hk (by decide)
    f8 := fun h1 h2 => row_keep (c.f8 h1 h2) hk (by decide)
    f11 := fun h1 => row_keep (c.f11 h1) hk (by decide)
    f12 := c.f12
    f13 := fun _ => ⟨g, hs3, e2, by simpa using hb⟩
    d48 := c.d48
    d78 := c.d78
    d711 := c.d711
    o30 := c.o30
    o74 := c.o74
    o118 := c.o118
    o12 := c.o12
    o14 := fun _ => ⟨h12, h13⟩ }
end Go.Proofs.Ytcpnkpogebjieaa
