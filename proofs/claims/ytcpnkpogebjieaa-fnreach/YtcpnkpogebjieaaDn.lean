/- The specification's own events: a guardian that is asked. -/
import Derived.Test.YtcpnkpogebjieaaDm
namespace Go.Proofs.Ytcpnkpogebjieaa
open Go.RowKit

theorem OkC.root {h : Hp} (c : OkC h) {z : Int} (hz : -1 ≤ z ∧ z < h.os.length) (t : Nat) : OkC { h with rs := h.rs.set t z } := by
  refine ⟨c.n60, by simpa using c.r8, c.w20, c.ob, fun y hy => ?_, c.wo, c.dd⟩
  rcases List.mem_or_eq_of_mem_set hy with hy | hy
  · exact c.ro y hy
  · subst hy; exact hz
theorem OkC.told {h : Hp} (c : OkC h) {ds : List (Int × Int)} (hd : ∀ p ∈ ds, p ∈ h.ds) (hl : ds.length ≤ h.ds.length) (da : Option Addr) (dcap : Nat) : OkC { h with da := da, dcap := dcap, ds := ds } :=
  ⟨c.n60, c.r8, by have := c.w20; simp only; omega, c.ob, c.ro, c.wo, fun p hp => c.dd p (hd p hp)⟩
/-- What was told lies in a new row. -/
theorem OwnQ.newD {W W' : World} {B : Nat} {h : Hp} (hq : OwnQ W B h) (hb : Below W.heap.size W W') {a : Option Addr} {cap : Nat} {ds : List (Int × Int)} (hown : OwnW W' W.heap.size (.slice a ds.length cap) ds) (hB : B ≤ W.heap.size) : OwnQ W' B { h with da := a, dcap := cap, ds := ds } := by
  have q := hq.below hb (Nat.le_refl _)
  exact ⟨q.ob, q.rs, q.rne, q.ro, q.rro, q.wa, hown.base hB, apart_lt hq.wa (Nat.le_refl _) (fun k e => (hown.lt k e).1)⟩
/-- The middle of a list of what is watched. -/
theorem SegW.part {w : World} {b off : Nat} {ws : List (Int × Int)} (h : SegW w (some ⟨b, off, none⟩) ws) (i : Nat) : SegW w (some ⟨b, off + i * 2, none⟩) (ws.drop i) := fun hm => by
  have hl : i < ws.length := by simp at hm; omega
  obtain ⟨b', off', e, hb, hc⟩ := h (by omega)
  simp only [Option.some.injEq, Addr.mk.injEq, and_true] at e
  obtain ⟨rfl, rfl⟩ := e
  refine ⟨b, off + i * 2, rfl, hb, fun j hj => ?_⟩
  have hj' : i + j < ws.length := by simp at hj; omega
  have := hc (i + j) hj'
  simp only [List.getElem_drop]
  have e1 : off + (i + j) * 2 = off + i * 2 + j * 2 := by omega
  rw [e1] at this
  exact this
theorem SegW.first {w : World} {a : Option Addr} {ws : List (Int × Int)} (h : SegW w a ws) (i : Nat) : SegW w a (ws.take i) := fun hm => by
  have hl : 0 < ws.length := by simp at hm; omega
  obtain ⟨b, off, e, hb, hc⟩ := h hl
  refine ⟨b, off, e, hb, fun j hj => ?_⟩
  have hj' : j < ws.length := by simp at hj; omega
  simp only [List.getElem_take]
  exact hc j hj'

/-- What l4Asks holds: z what is known at To. -/
structure AkIn (w : World) (h : Hp) (e : Ev) (B T gr : Nat) (z : Int) (W : World) : Prop where
  b : Bx3 w W h e
  q : OwnQ W B { h with rs := h.rs.set e.to.toNat z }
  be : Md B T w W

/-- Behind l4Asks' loop. -/
structure AkOut (w : World) (h : Hp) (e : Ev) (B T : Nat) (W : World) (z : Int) (da : Option Addr) (dcap : Nat) (ds : List (Int × Int)) : Prop where
  bh : Blk W w.heap.size [Value.slice h.oa h.os.length h.ocap, Value.slice h.ra h.rs.length h.rcap, Value.slice h.wa h.ws.length h.wcap, Value.slice da ds.length dcap] 27
  bv : Blk W (w.heap.size + 1) [Value.int .i64 e.k, Value.int .i64 e.to, Value.int .i64 e.fr, Value.int .i64 e.pt, Value.int .i64 e.o.k, Value.string e.o.t, Value.slice e.o.ra e.o.r.length e.o.rcap] 118
  br : Blk W (w.heap.size + 1 + 1) [Value.slice none 0 0, Value.slice none 0 0, Value.slice none 0 0, Value.slice none 0 0] 27
  q : OwnQ W B { h with rs := h.rs.set e.to.toNat z, da := da, dcap := dcap, ds := ds }
  ok : OkC { h with rs := h.rs.set e.to.toNat z, da := da, dcap := dcap, ds := ds }
  be : Md B T w W
  zb : z < h.os.length

set_option maxHeartbeats 3200000 in
set_option maxRecDepth 100000 in
theorem l4Asks_any (h : Hp) (e : Ev) (B T : Nat) (w : World) (hq : OwnQ w B h) (hB : B ≤ w.heap.size) (c : OkC h) (hT : RowsLt h T) (h0 : 0 ≤ e.to) (h1 : e.to < h.rs.length) :
    Calls Try.prog 101 #[h.v, e.v] w fun en w' => ∃ (y : Hp) (s : ByteArray), en = .returned (.tuple #[y.v, .string s]) ∧ OkC y ∧ OwnQ w' B y ∧ Md B T w w' := by
  obtain ⟨i0, hi, hz0, hz1, hz2⟩ := info_parts info_watch
  obtain ⟨b0, hb0⟩ := Bx3.start w h e
  have c1 := l4Root_any h e.fr _ ((hq.isIn.sr).below hb0 (Nat.le_refl _)) c.small.r
  have hbd := rootP_bd c.ro (by omega) e.fr
  obtain ⟨gr, hgr⟩ := hq.ro.ptr (by omega)
  have HGR : Hid (h.ra = some ⟨gr, 0, none⟩) := hgr
  clear hgr
  go_enter Try.func101, Try.ntmps101
  simp only [Hp.v, Ev.v, Ev.cs] at c1 ⊢
  go_wp2_with fail
  refine c1.mono ?_
  rintro en w1 ⟨rfl, hb1⟩
  have b1 := b0.step hb1
  have hB1 := hb0.trans (hb1.mono hb0.size)
  have hq1 := hq.below hB1 (Nat.le_refl _)
  have hBB : Md B T w w1 := Md.of hB1 hB
  clear c1 b0 hb0 hb1
  obtain ⟨⟨x0, x1, x2, x3⟩, ⟨y0, y1, y2, y3, y4, y5, y6⟩, ⟨r0, r1, r2, r3⟩, f0, f1, f2, f3⟩ := b1.cells
  obtain ⟨hqE, hbE, z0, z1, z2, z3⟩ := ret_heap b1.br hq1 hBB (by omega) (by omega) _ _ _ _ rfl rfl rfl rfl
  generalize rootP h.rs e.fr = G at *
  by_cases hG : G < 0
  · go_wp2
    refine bodyPost_ret (v := .tuple #[h.v, .string ⟨#[110, 111]⟩]) ?_ rfl ⟨h, _, rfl, c, hqE, hbE⟩
    simp [results, Try.results101, go_sem, z0, z1, z2, z3, Hp.v]
  have hG0 : 0 ≤ G := by omega
  have hGd : decide (G < 0) = false := by simpa using hG0
  have hGl : G.toNat < h.os.length := by omega
  have hG1 : G < (h.os.length : Int) := hbd.2
  obtain ⟨bb, off, eo, hbb, e1, e2, e3⟩ := hq.isIn.so.get hGl
  have d1 := (hB1.cell (p := ⟨bb, off + G.toNat * 3, none⟩) hbb).trans e1
  have HEO : Hid (h.oa = some ⟨bb, off, none⟩) := eo
  clear hG e1 e2 e3 hbd
  by_cases hk' : ¬ h.os[G.toNat].k = 4
  · have hkd : (h.os[G.toNat].k != 4) = true := by simpa using hk'
    clear hk'
    generalize hOA : h.oa = OA at eo x0 hqE hbE z0 z1 z2 z3 ⊢
    clear hOA
    subst eo
    go_wp2
    refine bodyPost_ret (v := .tuple #[h.v, .string ⟨#[110, 111]⟩]) ?_ rfl ⟨h, _, rfl, c, hqE, hbE⟩
    simp [results, Try.results101, go_sem, z0, z1, z2, z3, Hp.v, HEO.out]
  have hk : h.os[G.toNat].k = 4 := Decidable.not_not.1 hk'
  rw [hk] at d1
  clear hk hk' hqE hbE z0 z1 z2 z3
  have hgr := HGR.out
  have hro1 : OwnL w1 B (.slice (some ⟨gr, 0, none⟩) h.rs.length h.rcap) h.rs := by rw [← hgr]; exact hq1.ro
  have hgl : gr < w.heap.size := by
    have := hq.ro
    rw [hgr] at this
    exact (this.lt gr rfl).2
  have hgB : B ≤ gr := (hro1.lt gr rfl).1
  have hgT : gr < T := hT.r gr (by rw [hgr]; rfl)
  have htl : e.to.toNat < h.rs.length := by omega
  have q0 := hro1.at htl
  have q1 := hro1.free e.to.toNat
  have setR : ∀ (W : World) (y z : Int), AkIn w h e B T gr y W → AkIn w h e B T gr z (W.setCell ⟨gr, e.to.toNat, none⟩ (.int .i64 z)) := fun W y z A => by
    refine ⟨⟨A.b.bh.other _ _ (by dsimp only; omega), A.b.bv.other _ _ (by dsimp only; omega), A.b.br.other _ _ (by dsimp only; omega)⟩, ?_, A.be.set hgB (Or.inl hgT) _⟩
    have := A.q.setRoot (g := gr) hgr e.to.toNat z
    simpa using this
  have A0 : AkIn w h e B T gr (-1) (w1.setCell ⟨gr, e.to.toNat, none⟩ (.int .i64 (-1))) := by
    refine setR w1 (h.rs[e.to.toNat]) (-1) ⟨b1, ?_, hBB⟩
    rw [List.set_getElem_self]; exact hq1
  have SETR : Hid (∀ (W : World) (y z : Int), AkIn w h e B T gr y W → AkIn w h e B T gr z (W.setCell ⟨gr, e.to.toNat, none⟩ (.int .i64 z))) := setR
  have hw20 := c.w20
  clear setR
  obtain ⟨DA, hDA⟩ : ∃ DA, h.da = DA := ⟨_, rfl⟩
  have HDA : Hid (h.da = DA) := hDA
  go_upto_block 0 with fail
  clear hDA
  have HOUT : Hid (∀ W, AkIn w h e B T gr (-1) W → AkOut w h e B T W (-1) h.da h.dcap h.ds) := fun W A => ⟨A.b.bh, A.b.bv, A.b.br, A.q, c.root ⟨by omega, by omega⟩ _, A.be, by omega⟩
  go_cut [] from 29 (fun wx => ∃ (z : Int) (da : Option Addr) (dcap : Nat) (ds : List (Int × Int)), AkOut w h e B T wx z da dcap ds)
  case first =>
    clear x0 x1 x2 x3 y0 y1 y2 y3 y4 y5 y6 r0 r1 r2 r3 f0 f1 f2 f3 q0 q1 d1 hq1 hBB b1 hB1 hro1
    go_wp2_with fail
    go_loopw [7] (fun i wr => ∃ k : Nat, k ≤ h.ds.length ∧ i = .int .i64 k ∧ AkIn w h e B T gr (-1) wr) (fun i _ => h.ds.length - (intOf i).toNat)
    case atStart => exact ⟨0, Nat.zero_le _, rfl, A0⟩
    case round =>
      obtain ⟨k, hk, rfl, A⟩ := hrel
      clear A0
      obtain ⟨⟨x0, x1, x2, x3⟩, ⟨y0, y1, y2, y3, y4, y5, y6⟩, ⟨r0, r1, r2, r3⟩, f0, f1, f2, f3⟩ := A.b.cells
      rw [HDA.out] at x3
      by_cases hlt : k < h.ds.length
      · have hsd : SegW wr h.da h.ds := A.q.isIn.sd
        have hda : ∃ gd, h.da = some ⟨gd, 0, none⟩ ∧ h.ds.length ≤ h.dcap := by
          rcases A.q.da.2 with ⟨_, q2⟩ | ⟨g', cap', cur, q1, _, _, q3, _⟩
          · exact absurd q2 (by simp only; omega)
          · simp only [Value.slice.injEq] at q1
            exact ⟨g', q1.1, by simp only at q3; omega⟩
        obtain ⟨gd, hgd, hdc⟩ := hda
        obtain ⟨b5, o5, e5, hb5, d1, d2'⟩ := hsd.get hlt
        rw [hgd] at e5
        simp only [Option.some.injEq, Addr.mk.injEq, and_true] at e5
        obtain ⟨rfl, rfl⟩ := e5
        rw [Nat.zero_add] at d1 d2'
        have HGD : Hid (h.da = some ⟨gd, 0, none⟩) := hgd
        obtain rfl : DA = some ⟨gd, 0, none⟩ := HDA.out.symm.trans hgd
        clear hgd
        have HDS : Hid (h.ds[k] ∈ h.ds) := List.getElem_mem hlt
        have hdb := okP_watch (h := h) c.dd h.ds[k] (List.getElem_mem hlt)
        generalize hD1 : h.ds[k].1 = dd1 at *
        generalize hD2 : h.ds[k].2 = d2 at *
        have HD : Hid (h.ds[k].1 = dd1 ∧ h.ds[k].2 = d2) := ⟨hD1, hD2⟩
        clear hD1 hD2
        by_cases hg : dd1 = G
        · subst hg
          have hro : OwnL wr B (.slice (some ⟨gr, 0, none⟩) h.rs.length h.rcap) (h.rs.set e.to.toNat (-1)) := by
            have := A.q.ro
            simp only [hgr, List.length_set] at this
            exact this
          have q0 := hro.at (k := e.to.toNat) (by simpa using htl)
          have q1 := hro.free e.to.toNat
          have hgdl : gd ≠ gr := fun q => by
            have h1 := A.q.da
            simp only [HGD.out] at h1
            obtain ⟨c1, u1⟩ := row_ty h1 rfl
            obtain ⟨c2, u2⟩ := row_ty hro rfl
            rw [q, u2] at u1
            simp at u1
          have Ad := SETR.out wr (-1) d2 A
          have hdr : Below (wr.setCell ⟨gr, e.to.toNat, none⟩ (.int .i64 d2)).heap.size (wr.setCell ⟨gr, e.to.toNat, none⟩ (.int .i64 d2)) (wr.setCell ⟨gr, e.to.toNat, none⟩ (.int .i64 d2)).drew := (Below.refl _ _).drew
          have A9 : AkIn w h e B T gr d2 (wr.setCell ⟨gr, e.to.toNat, none⟩ (.int .i64 d2)).drew := ⟨Ad.b.step hdr, Ad.q.below hdr (Nat.le_refl _), Ad.be.step hdr hB⟩
          rw [hgr] at x1
          have hS9 : (fun (W' : World) => W'.cell? ⟨w.heap.size, 1, none⟩ = some (.slice (some ⟨gr, 0, none⟩) h.rs.length h.rcap) ∧ W'.cell? ⟨w.heap.size, 3, none⟩ = some (.slice (some ⟨gd, 0, none⟩) h.ds.length h.dcap) ∧ W'.cell? ⟨w.heap.size + 1, 1, none⟩ = some (.int .i64 e.to) ∧ W'.cell? ⟨gd, k * 2 + 1, none⟩ = some (.int .i64 d2)) (wr.setCell ⟨gr, e.to.toNat, none⟩ (.int .i64 d2)).drew := by
            have sc : ∀ (p : Addr) (u : Value), p.block ≠ gr → wr.cell? p = some u → (wr.setCell ⟨gr, e.to.toNat, none⟩ (.int .i64 d2)).drew.cell? p = some u := fun p u hp hc => by
              exact (World.cell?_of_block (w := wr) (w' := (wr.setCell ⟨gr, e.to.toNat, none⟩ (.int .i64 d2)).drew) (Below.heap_setCell _ _ _ _ hp)).trans hc
            have p1 : w.heap.size ≠ gr := by omega
            have p2 : w.heap.size + 1 ≠ gr := by omega
            exact ⟨sc _ _ p1 x1, sc _ _ p1 x3, sc _ _ p2 y1, sc _ _ hgdl d2'⟩
          obtain ⟨s1, s2, s3, s4⟩ := hS9
          have HDB : Hid (0 ≤ d2 ∧ d2 < (h.os.length : Int)) := hdb.2
          have hd2a := hdb.2.1
          have hd2b := hdb.2.2
          have hi1 : (k : Int) < (h.ds.length : Int) := by omega
          have hi2 : (k : Int) ≤ (h.dcap : Int) := by omega
          have hi3 : (k : Int) + 1 ≤ (h.ds.length : Int) := by omega
          have hi4 : (h.ds.length : Int) ≤ (h.dcap : Int) := by omega
          have hwr : IntKind.i64.wrap ((k : Int) + 1) = (k : Int) + 1 := IntWalk.i64_in _ (by omega)
          have hk1 : 0 ≤ (k : Int) + 1 := by omega
          have hk2 : ((k : Int) + 1).toNat = k + 1 := by omega
          go_wp2_with fail
          go_region_held3 (fun (W' : World) => W'.cell? ⟨w.heap.size, 1, none⟩ = some (.slice (some ⟨gr, 0, none⟩) h.rs.length h.rcap) ∧ W'.cell? ⟨w.heap.size, 3, none⟩ = some (.slice (some ⟨gd, 0, none⟩) h.ds.length h.dcap) ∧ W'.cell? ⟨w.heap.size + 1, 1, none⟩ = some (.int .i64 e.to) ∧ W'.cell? ⟨gd, k * 2 + 1, none⟩ = some (.int .i64 d2)) (first | (refine ⟨?_, ?_, ?_, ?_⟩ <;> with_reducible assumption) | go_keep) (fail)
          generalize hW9 : (wr.setCell ⟨gr, e.to.toNat, none⟩ (.int .i64 d2)).drew = W9 at A9 s1 s2 s3 s4 ⊢
          clear hW9 A Ad hro q0 q1 hdr x0 x1 x2 x3 y0 y1 y2 y3 y4 y5 y6 r0 r1 r2 r3 f0 f1 f2 f3 d1 d2'
          have hdr9 : Below W9.heap.size W9 W9.drew := (Below.refl _ _).drew
          go_wp2_with fail
          refine wp_region_k (by kernel_rfl) 13 (fun (W' : World) => W'.cell? ⟨w.heap.size, 3, none⟩ = some (.slice (some ⟨gd, 0, none⟩) h.ds.length h.dcap)) ?_
          have hC : (fun (W' : World) => W'.cell? ⟨w.heap.size, 3, none⟩ = some (.slice (some ⟨gd, 0, none⟩) h.ds.length h.dcap)) W9.drew := s2
          generalize hWD : W9.drew = WD at hdr9 hC ⊢
          clear hWD
          refine takeK (i := 1) (v := ?_) 56 rfl rfl rfl (by kernel_rfl) (by kernel_rfl) (by kernel_rfl) (by kernel_rfl) (by kernel_rfl) rfl (fun _ _ _ h => h) (Or.inl ⟨by rfl, ?_⟩) hC ?_
          rotate_left
          · intro W hSw
            try dsimp only at hSw
            go_simp
            try with_reducible rfl
          simp only [List.setIfInBounds_toArray, List.set_cons_zero, List.set_cons_succ]
          refine takeK (i := 2) (v := ?_) 57 rfl rfl rfl (by kernel_rfl) (by kernel_rfl) (by kernel_rfl) (by kernel_rfl) (by kernel_rfl) rfl (fun _ _ _ h => h) (Or.inl ⟨by rfl, ?_⟩) hC ?_
          rotate_left
          · intro W hSw
            try dsimp only at hSw
            go_simp
            try with_reducible rfl
          simp only [List.setIfInBounds_toArray, List.set_cons_zero, List.set_cons_succ]
          refine takeK (i := 3) (v := ?_) 58 rfl rfl rfl (by kernel_rfl) (by kernel_rfl) (by kernel_rfl) (by kernel_rfl) (by kernel_rfl) rfl (fun _ _ _ h => h) (Or.inl ⟨by rfl, ?_⟩) hC ?_
          rotate_left
          · intro W hSw
            try dsimp only at hSw
            go_simp
            try with_reducible rfl
          simp only [List.setIfInBounds_toArray, List.set_cons_zero, List.set_cons_succ]
          refine takeK (i := 4) (v := ?_) 59 rfl rfl rfl (by kernel_rfl) (by kernel_rfl) (by kernel_rfl) (by kernel_rfl) (by kernel_rfl) rfl (fun _ _ _ h => h) (Or.inl ⟨by rfl, ?_⟩) hC ?_
          rotate_left
          · intro W hSw
            try dsimp only at hSw
            go_simp
            try with_reducible rfl
          simp only [List.setIfInBounds_toArray, List.set_cons_zero, List.set_cons_succ]
          refine takeK (i := 6) (v := ?_) 61 rfl rfl rfl (by kernel_rfl) (by kernel_rfl) (by kernel_rfl) (by kernel_rfl) (by kernel_rfl) rfl (fun _ _ _ h => h) (Or.inl ⟨by rfl, ?_⟩) hC ?_
          rotate_left
          · intro W hSw
            try dsimp only at hSw
            go_simp
            try with_reducible rfl
          simp only [List.setIfInBounds_toArray, List.set_cons_zero, List.set_cons_succ]
          refine takeK (i := 7) (v := ?_) 62 rfl rfl rfl (by kernel_rfl) (by kernel_rfl) (by kernel_rfl) (by kernel_rfl) (by kernel_rfl) rfl (fun _ _ _ h => h) (Or.inl ⟨by rfl, ?_⟩) hC ?_
          rotate_left
          · intro W hSw
            try dsimp only at hSw
            go_simp
            try with_reducible rfl
          simp only [List.setIfInBounds_toArray, List.set_cons_zero, List.set_cons_succ]
          refine takeK (i := 8) (v := ?_) 63 rfl rfl rfl (by kernel_rfl) (by kernel_rfl) (by kernel_rfl) (by kernel_rfl) (by kernel_rfl) rfl (fun _ _ _ h => h) (Or.inl ⟨by rfl, ?_⟩) hC ?_
          rotate_left
          · intro W hSw
            try dsimp only at hSw
            go_simp
            try with_reducible rfl
          simp only [List.setIfInBounds_toArray, List.set_cons_zero, List.set_cons_succ]
          refine takeK (i := 9) (v := ?_) 64 rfl rfl rfl (by kernel_rfl) (by kernel_rfl) (by kernel_rfl) (by kernel_rfl) (by kernel_rfl) rfl (fun _ _ _ h => h) (Or.inl ⟨by rfl, ?_⟩) hC ?_
          rotate_left
          · intro W hSw
            try dsimp only at hSw
            go_simp
            try with_reducible rfl
          simp only [List.setIfInBounds_toArray, List.set_cons_zero, List.set_cons_succ]
          refine takeK (i := 10) (v := ?_) 65 rfl rfl rfl (by kernel_rfl) (by kernel_rfl) (by kernel_rfl) (by kernel_rfl) (by kernel_rfl) rfl (fun _ _ _ h => h) (Or.inl ⟨by rfl, ?_⟩) hC ?_
          rotate_left
          · intro W hSw
            try dsimp only at hSw
            go_simp
            try with_reducible rfl
          simp only [List.setIfInBounds_toArray, List.set_cons_zero, List.set_cons_succ]
          have hA0 : Below W9.heap.size W9 (WD.alloc (Obj.cells #[] 77)) := hdr9.alloc hdr9.size _
          have hO0 : (WD.alloc (Obj.cells #[] 77)).ownsRow W9.heap.size 77 2 (.slice (some ⟨WD.heap.size, 0, none⟩) 0 0) 0 [] := World.ownsRow_lit (e := 77) (size := 2) (base := W9.heap.size) WD #[] 0 hdr9.size (Nat.zero_le _) rfl
          have hC0 : (fun (W' : World) => W'.cell? ⟨w.heap.size, 3, none⟩ = some (.slice (some ⟨gd, 0, none⟩) h.ds.length h.dcap)) (WD.alloc (Obj.cells #[] 77)) := (hA0.cell (p := ⟨w.heap.size, 3, none⟩) A9.b.bh.lt).trans s2
          have hsd9 : SegW W9 (some ⟨gd, 0, none⟩) h.ds := by
            have := A9.q.isIn.sd
            simp only [HGD.out] at this
            exact this
          refine wpAnyK_ready (rs := [0]) (by kernel_rfl) (by simp) ?_
          refine AllReadyK.cons (o := _) rfl (fun K hK => ?_) AllReadyK.nil
          go_simp
          refine hK.out _ _ hC0 ?_
          clear hK K
          try simp only [Act.put, List.getElem_toArray, List.getElem_cons_zero, List.getElem_cons_succ, List.setIfInBounds_toArray, List.set_cons_zero, List.set_cons_succ]
          generalize hWA : WD.alloc (Obj.cells #[] 77) = WA at hA0 hO0 hC0 ⊢
          clear hWA
          refine wpAnyK_ready (rs := [5]) (by kernel_rfl) (by simp) ?_
          refine AllReadyK.cons (o := _) rfl (fun K hK => ?_) AllReadyK.nil
          refine step_append_src _ rfl _ _ 25 rfl W9.heap.size 77 i0 _ 2 16 Try.underlying25 hi hz0 hz1 hz2 rfl (by decide) _ 0 [] rfl hO0 (some ⟨gd, 0, none⟩) k h.dcap ((h.ds.take k).flatMap wc) rfl (by rw [flat_len wc 2 (fun _ => rfl), List.length_take]; omega) (fun hm => (((hsd9.below hA0 (Nat.le_refl _)).first k).src) (by rw [List.length_take]; omega)) (watch_one _) (by unfold maxLen; omega) (by omega) hA0.size ?_
          intro v5 w5 hown5 hgr5 hat5
          have hb5 : Below W9.heap.size W9 w5 := hA0.trans (gb_below hgr5 hA0.size (fun q e => (hO0.lt q e).1))
          have hC5 : (fun (W' : World) => W'.cell? ⟨w.heap.size, 3, none⟩ = some (.slice (some ⟨gd, 0, none⟩) h.ds.length h.dcap)) w5 := (hb5.cell (p := ⟨w.heap.size, 3, none⟩) A9.b.bh.lt).trans s2
          refine hK.out _ _ hC5 ?_
          clear hK K
          try simp only [Act.put, List.getElem_toArray, List.getElem_cons_zero, List.getElem_cons_succ, List.setIfInBounds_toArray, List.set_cons_zero, List.set_cons_succ]
          refine wpAnyK_ready (rs := [11]) (by kernel_rfl) (by simp) ?_
          refine AllReadyK.cons (o := _) rfl (fun K hK => ?_) AllReadyK.nil
          refine step_append_src _ rfl _ _ 25 rfl W9.heap.size 77 i0 _ 2 16 Try.underlying25 hi hz0 hz1 hz2 rfl (by decide) _ _ _ rfl hown5 (if h.dcap = k + 1 then some ⟨gd, 0, none⟩ else some ⟨gd, (k + 1) * 2, none⟩) (h.ds.length - (k + 1)) (h.dcap - (k + 1)) ((h.ds.drop (k + 1)).flatMap wc) rfl (by rw [flat_len wc 2 (fun _ => rfl), List.length_drop]) (fun hm => by
            have hne : ¬ h.dcap = k + 1 := by omega
            have := ((hsd9.below hb5 (Nat.le_refl _)).part (k + 1)).src (by rw [List.length_drop]; omega)
            rw [if_neg hne]
            simpa using this) (watch_one _) (by unfold maxLen; omega) (by omega) hb5.size ?_
          intro v6 w6 hown6 hgr6 hat6
          have hb6 : Below W9.heap.size W9 w6 := hb5.trans (gb_below hgr6 hb5.size (fun q e => (hown5.lt q e).1))
          have hC6 : (fun (W' : World) => W'.cell? ⟨w.heap.size, 3, none⟩ = some (.slice (some ⟨gd, 0, none⟩) h.ds.length h.dcap)) w6 := (hb6.cell (p := ⟨w.heap.size, 3, none⟩) A9.b.bh.lt).trans s2
          refine hK.out _ _ hC6 ?_
          clear hK K
          try simp only [Act.put, List.getElem_toArray, List.getElem_cons_zero, List.getElem_cons_succ, List.setIfInBounds_toArray, List.set_cons_zero, List.set_cons_succ]
          have hlen : k + (h.ds.length - (k + 1)) = (h.ds.take k ++ h.ds.drop (k + 1)).length := by rw [List.length_append, List.length_take, List.length_drop]; omega
          have ho6 : OwnW w6 W9.heap.size v6 (h.ds.take k ++ h.ds.drop (k + 1)) := by
            unfold OwnW
            rw [← hlen, List.flatMap_append]
            simpa using hown6
          obtain ⟨a6, c6, rfl, -⟩ := ho6.form
          have A9b := A9.b.step hb6
          have f6 := A9b.bh.free 3
          have hC6' : w6.cell? ⟨w.heap.size, 3, none⟩ = some (.slice (some ⟨gd, 0, none⟩) h.ds.length h.dcap) := hC6
          have hEnd : AkOut w h e B T (w6.setCell ⟨w.heap.size, 3, none⟩ (.slice a6 (h.ds.take k ++ h.ds.drop (k + 1)).length c6)) d2 a6 c6 (h.ds.take k ++ h.ds.drop (k + 1)) := by
            have kk : KeepT 27 w6 (w6.setCell ⟨w.heap.size, 3, none⟩ (.slice a6 (h.ds.take k ++ h.ds.drop (k + 1)).length c6)) := KeepT.set A9b.bh 3 _
            refine ⟨A9b.bh.store 3 _, A9b.bv.other _ _ (by dsimp only; omega), A9b.br.other _ _ (by dsimp only; omega), (A9.q.newD hb6 ho6 (Nat.le_trans hB A9.be.be.size)).keep kk, (c.root ⟨by omega, hd2b⟩ _).told (fun p hp => ?_) (by rw [← hlen]; simp only; omega) _ _, (A9.be.step hb6 hB).set hB (Or.inr (Nat.le_refl _)) _, hd2b⟩
            rcases List.mem_append.1 hp with hp | hp
            · exact List.mem_of_mem_take hp
            · exact List.mem_of_mem_drop hp
          have HLEN : Hid (k + (h.ds.length - (k + 1)) = (h.ds.take k ++ h.ds.drop (k + 1)).length) := hlen
          generalize hLL : (h.ds.take k ++ h.ds.drop (k + 1)).length = LL at *
          clear hLL hlen hown5 hgr5 hat5 hown6 hgr6 hat6 hO0 hsd9 hk2 hwr
          refine takeK (i := 12) (v := ?_) 67 rfl rfl rfl (by kernel_rfl) (by kernel_rfl) (by kernel_rfl) (by kernel_rfl) (by kernel_rfl) rfl (fun _ _ _ h => h) (Or.inl ⟨by rfl, ?_⟩) hC6 ?_
          rotate_left
          · intro W hSw
            try dsimp only at hSw
            go_simp
            try with_reducible rfl
          simp only [List.setIfInBounds_toArray, List.set_cons_zero, List.set_cons_succ]
          refine wpAnyK_ready (rs := [13]) (by kernel_rfl) (by simp) ?_
          refine AllReadyK.last (o := _) rfl (fun K hK => ?_) AllReadyK.nil
          go_simp
          refine hK.out _ _ ?_
          clear hK K
          try simp only [Act.put]
          refine wpAnyK_done (by kernel_rfl) ?_ _
          generalize (if h.dcap = k + 1 then some (⟨gd, 0, none⟩ : Addr) else some ⟨gd, (k + 1) * 2, none⟩) = IFV
          go_wp2
          go_meet
          case rel => exact ⟨_, _, _, _, hEnd⟩
        · have hgd' : (dd1 == G) = false := by simp [hg]
          clear hg
          go_wp2
          go_roundw
          case rel => exact ⟨k + 1, by omega, by go_num, A⟩
          case measure => simp [intOf]; omega
      · have hO := HOUT.out wr A
        go_wp2
        go_meet
        case rel => exact ⟨_, _, _, _, hO⟩
  case rest =>
    obtain ⟨z, da, dcap, ds, hO⟩ := hcut
    clear x0 x1 x2 x3 y0 y1 y2 y3 y4 y5 y6 r0 r1 r2 r3 f0 f1 f2 f3 q0 q1 d1 hq1 hBB b1 hB1 hro1 A0 SETR HOUT
    have hro : OwnL wc B (.slice (some ⟨gr, 0, none⟩) h.rs.length h.rcap) (h.rs.set e.to.toNat z) := by
      have := hO.q.ro
      simp only [hgr, List.length_set] at this
      exact this
    have hcs : (fun (W' : World) => (W'.cell? ⟨w.heap.size, 0, none⟩ = some (.slice (some ⟨bb, off, none⟩) h.os.length h.ocap) ∧ W'.cell? ⟨w.heap.size, 1, none⟩ = some (.slice (some ⟨gr, 0, none⟩) h.rs.length h.rcap) ∧ W'.cell? ⟨w.heap.size, 2, none⟩ = some (.slice h.wa h.ws.length h.wcap) ∧ W'.cell? ⟨w.heap.size, 3, none⟩ = some (.slice da ds.length dcap)) ∧ W'.cell? ⟨w.heap.size + 1, 1, none⟩ = some (.int .i64 e.to) ∧ W'.cell? ⟨gr, e.to.toNat, none⟩ = some (.int .i64 z)) wc := by
      have x := cells4'' hO.bh
      rw [eo, hgr] at x
      have q5 := hro.at (k := e.to.toNat) (by simpa using htl)
      rw [List.getElem_set_self] at q5
      exact ⟨x, hO.bv.cell 1, q5⟩
    obtain ⟨⟨x0, x1, x2, x3⟩, y1, q5⟩ := hcs
    have c5 := l4Sees_any { h with rs := h.rs.set e.to.toNat z, da := da, dcap := dcap, ds := ds } z wc.drew (hO.q.isIn.so.below ((Below.refl _ _).drew) (Nat.le_refl _)) (fun i hi => by have := (hO.ok.kind i hi).1; omega) hO.zb
    simp only [Hp.v, List.length_set, hgr, eo] at c5
    have HB5 : Hid (∀ w6, Below wc.drew.heap.size wc.drew w6 → (fun (W' : World) => (W'.cell? ⟨w.heap.size, 0, none⟩ = some (.slice (some ⟨bb, off, none⟩) h.os.length h.ocap) ∧ W'.cell? ⟨w.heap.size, 1, none⟩ = some (.slice (some ⟨gr, 0, none⟩) h.rs.length h.rcap) ∧ W'.cell? ⟨w.heap.size, 2, none⟩ = some (.slice h.wa h.ws.length h.wcap) ∧ W'.cell? ⟨w.heap.size, 3, none⟩ = some (.slice da ds.length dcap)) ∧ W'.cell? ⟨w.heap.size + 1, 1, none⟩ = some (.int .i64 e.to) ∧ W'.cell? ⟨gr, e.to.toNat, none⟩ = some (.int .i64 z)) w6 ∧ Blk w6 (w.heap.size + 1 + 1) [Value.slice none 0 0, Value.slice none 0 0, Value.slice none 0 0, Value.slice none 0 0] 27 ∧ Md B T w w6 ∧ OwnQ w6 B { h with rs := h.rs.set e.to.toNat z, da := da, dcap := dcap, ds := ds }) := fun w6 hb6 => by
      have hb6' : Below wc.heap.size wc w6 := ((Below.refl _ _).drew).trans hb6
      have bh6 := hO.bh.step hb6'
      have bv6 := hO.bv.step hb6'
      have qq6 := (hro.below hb6' (Nat.le_refl _)).at (k := e.to.toNat) (by simpa using htl)
      rw [List.getElem_set_self] at qq6
      have x := cells4'' bh6
      rw [eo, hgr] at x
      exact ⟨⟨x, bv6.cell 1, qq6⟩, hO.br.step hb6', hO.be.step hb6' hB, hO.q.below hb6' (Nat.le_refl _)⟩
    have HS7 : Hid (∀ w6 : World, (fun (W' : World) => (W'.cell? ⟨w.heap.size, 0, none⟩ = some (.slice (some ⟨bb, off, none⟩) h.os.length h.ocap) ∧ W'.cell? ⟨w.heap.size, 1, none⟩ = some (.slice (some ⟨gr, 0, none⟩) h.rs.length h.rcap) ∧ W'.cell? ⟨w.heap.size, 2, none⟩ = some (.slice h.wa h.ws.length h.wcap) ∧ W'.cell? ⟨w.heap.size, 3, none⟩ = some (.slice da ds.length dcap)) ∧ W'.cell? ⟨w.heap.size + 1, 1, none⟩ = some (.int .i64 e.to) ∧ W'.cell? ⟨gr, e.to.toNat, none⟩ = some (.int .i64 z)) w6 → (fun (W' : World) => (W'.cell? ⟨w.heap.size, 0, none⟩ = some (.slice (some ⟨bb, off, none⟩) h.os.length h.ocap) ∧ W'.cell? ⟨w.heap.size, 1, none⟩ = some (.slice (some ⟨gr, 0, none⟩) h.rs.length h.rcap) ∧ W'.cell? ⟨w.heap.size, 2, none⟩ = some (.slice h.wa h.ws.length h.wcap) ∧ W'.cell? ⟨w.heap.size, 3, none⟩ = some (.slice da ds.length dcap)) ∧ W'.cell? ⟨w.heap.size + 1, 1, none⟩ = some (.int .i64 e.to) ∧ W'.cell? ⟨gr, e.to.toNat, none⟩ = some (.int .i64 z)) ((((w6.setCell ⟨w.heap.size + 1 + 1, 0, none⟩ (.slice (some ⟨bb, off, none⟩) h.os.length h.ocap)).setCell ⟨w.heap.size + 1 + 1, 1, none⟩ (.slice (some ⟨gr, 0, none⟩) h.rs.length h.rcap)).setCell ⟨w.heap.size + 1 + 1, 2, none⟩ (.slice h.wa h.ws.length h.wcap)).setCell ⟨w.heap.size + 1 + 1, 3, none⟩ (.slice da ds.length dcap))) := fun w6 hs => by
      have sc : ∀ (p : Addr) (u : Value), p.block ≠ w.heap.size + 1 + 1 → w6.cell? p = some u → ((((w6.setCell ⟨w.heap.size + 1 + 1, 0, none⟩ (.slice (some ⟨bb, off, none⟩) h.os.length h.ocap)).setCell ⟨w.heap.size + 1 + 1, 1, none⟩ (.slice (some ⟨gr, 0, none⟩) h.rs.length h.rcap)).setCell ⟨w.heap.size + 1 + 1, 2, none⟩ (.slice h.wa h.ws.length h.wcap)).setCell ⟨w.heap.size + 1 + 1, 3, none⟩ (.slice da ds.length dcap)).cell? p = some u := fun p u hp hc => by
        rw [World.cell?_of_block (Below.heap_setCell _ _ _ _ hp), World.cell?_of_block (Below.heap_setCell _ _ _ _ hp), World.cell?_of_block (Below.heap_setCell _ _ _ _ hp), World.cell?_of_block (Below.heap_setCell _ _ _ _ hp)]; exact hc
      have p1 : w.heap.size ≠ w.heap.size + 1 + 1 := by omega
      have p2 : w.heap.size + 1 ≠ w.heap.size + 1 + 1 := by omega
      have p3 : gr ≠ w.heap.size + 1 + 1 := by omega
      exact ⟨⟨sc _ _ p1 hs.1.1, sc _ _ p1 hs.1.2.1, sc _ _ p1 hs.1.2.2.1, sc _ _ p1 hs.1.2.2.2⟩, sc _ _ p2 hs.2.1, sc _ _ p3 hs.2.2⟩
    have cE := hO.ok
    clear hO hro
    go_wp2_with fail
    go_region_held3 (fun (W' : World) => (W'.cell? ⟨w.heap.size, 0, none⟩ = some (.slice (some ⟨bb, off, none⟩) h.os.length h.ocap) ∧ W'.cell? ⟨w.heap.size, 1, none⟩ = some (.slice (some ⟨gr, 0, none⟩) h.rs.length h.rcap) ∧ W'.cell? ⟨w.heap.size, 2, none⟩ = some (.slice h.wa h.ws.length h.wcap) ∧ W'.cell? ⟨w.heap.size, 3, none⟩ = some (.slice da ds.length dcap)) ∧ W'.cell? ⟨w.heap.size + 1, 1, none⟩ = some (.int .i64 e.to) ∧ W'.cell? ⟨gr, e.to.toNat, none⟩ = some (.int .i64 z)) (first | (refine ⟨⟨?_, ?_, ?_, ?_⟩, ?_, ?_⟩ <;> with_reducible assumption) | go_keep)
      (first
        | (go_at_call 98; refine c5.mono ?_; rintro en w6 ⟨sx, rfl, hb6⟩; obtain ⟨⟨⟨m0, m1, m2, m3⟩, m4, m5⟩, br6, hB6, hq6⟩ := HB5.out w6 hb6; obtain ⟨u0, u1, u2, u3⟩ := cells4'' br6; obtain ⟨v0, v1, v2, v3⟩ := free4 br6; obtain ⟨⟨d0, d1, d2, d3⟩, d4, d5⟩ := HS7.out w6 ⟨⟨m0, m1, m2, m3⟩, m4, m5⟩))
    all_goals
      obtain ⟨hqE, hbE, z0, z1, z2, z3⟩ := ret_heap br6 hq6 hB6 (by omega) (by omega) (.slice (some ⟨bb, off, none⟩) h.os.length h.ocap) (.slice (some ⟨gr, 0, none⟩) h.rs.length h.rcap) (.slice h.wa h.ws.length h.wcap) (.slice da ds.length dcap) (by simp [eo]) (by simp [hgr]) rfl rfl
      clear br6 hq6 hB6 HB5 HS7 c5
      go_wp2
      refine bodyPost_ret (v := .tuple #[Hp.v { h with rs := h.rs.set e.to.toNat z, da := da, dcap := dcap, ds := ds }, .string sx]) ?_ rfl ⟨_, _, rfl, cE, hqE, hbE⟩
      simp [results, Try.results101, go_sem, z0, z1, z2, z3, Hp.v, hgr, eo]
end Go.Proofs.Ytcpnkpogebjieaa
