/- The specification's own events: an object that is made, walked. -/
import Derived.Test.YtcpnkpogebjieaaDjToDk
namespace Go.Proofs.Ytcpnkpogebjieaa
open Go.RowKit

/-- What l4Makes holds between two rounds: m the block of the new object. -/
structure MkIn (w : World) (h : Hp) (e : Ev) (m : Nat) (a : Option Addr) (cc : Nat) (wr : World) (k : Nat) : Prop where
  b : Bx3 w wr h e
  bo : Blk wr m [Value.int .i64 e.o.k, Value.string e.o.t, Value.slice a e.o.r.length cc] 52
  ro : OwnL wr w.heap.size (.slice a e.o.r.length cc) (mixR (rootP h.rs) e.o.r k)
  be : Below w.heap.size w wr
  mge : w.heap.size ≤ m
theorem MkIn.step {w : World} {h : Hp} {e : Ev} {m : Nat} {a : Option Addr} {cc : Nat} {wr W : World} {k : Nat} (c : MkIn w h e m a cc wr k) (hb : Below wr.heap.size wr W) : MkIn w h e m a cc W k :=
  ⟨c.b.step hb, c.bo.step hb, c.ro.below hb (Nat.le_refl _), c.be.trans (hb.mono c.be.size), c.mge⟩
theorem MkIn.set {w : World} {h : Hp} {e : Ev} {m g cc : Nat} {wr : World} {k : Nat} (c : MkIn w h e m (some ⟨g, 0, none⟩) cc wr k) (hk : k < e.o.r.length) : MkIn w h e m (some ⟨g, 0, none⟩) cc (wr.setCell ⟨g, k, none⟩ (.int .i64 (rootP h.rs e.o.r[k]))) (k + 1) := by
  have hg : w.heap.size ≤ g := (c.ro.lt g rfl).1
  have n1 : w.heap.size ≠ g := fun q => row_ne_blk c.ro c.b.bh (by decide) (by rw [q]; rfl)
  have n2 : w.heap.size + 1 ≠ g := fun q => row_ne_blk c.ro c.b.bv (by decide) (by rw [q]; rfl)
  have n3 : w.heap.size + 1 + 1 ≠ g := fun q => row_ne_blk c.ro c.b.br (by decide) (by rw [q]; rfl)
  have n4 : m ≠ g := fun q => row_ne_blk c.ro c.bo (by decide) (by rw [q]; rfl)
  refine ⟨⟨c.b.bh.other _ _ n1, c.b.bv.other _ _ n2, c.b.br.other _ _ n3⟩, c.bo.other _ _ n4, ?_, c.be.setCell hg _, c.mge⟩
  have := c.ro.set (mixR_len _ _ _ (Nat.le_of_lt hk)).symm (k := k) (rootP h.rs e.o.r[k])
  rw [mixR_set _ _ _ hk] at this
  exact this

set_option maxHeartbeats 3200000 in
set_option maxRecDepth 100000 in
theorem l4Makes_any (h : Hp) (e : Ev) (B T : Nat) (w : World) (hq : OwnQ w B h) (hB : B ≤ w.heap.size) (c : OkC h) (hT : RowsLt h T) (he : SegI w e.o.ra e.o.r) (hel : e.o.r.length ≤ 1048576) (het : e.o.t.size ≤ maxLen) (h0 : 0 ≤ e.to) (h1 : e.to < h.rs.length) :
    Calls Try.prog 96 #[h.v, e.v] w fun en w' => ∃ (y : Hp) (s : ByteArray), en = .returned (.tuple #[y.v, .string s]) ∧ OkC y ∧ OwnQ w' B y ∧ Md B T w w' := by
  obtain ⟨i0, hi, hz0, hz1, hz2⟩ := info_parts info_obj
  obtain ⟨b0, hb0⟩ := Bx3.start w h e
  have c1 := l1Obj_any e.o _ (he.below hb0 (Nat.le_refl _)) hel
  go_enter Try.func96, Try.ntmps96
  simp only [Hp.v, Ev.v, Ev.cs] at c1 ⊢
  go_wp2_with fail
  refine c1.mono ?_
  rintro en w1 ⟨a, cc, rfl, hoo, hb1⟩
  have b1 := b0.step hb1
  have hB1 := hb0.trans (hb1.mono hb0.size)
  have hA : Below w1.heap.size w1 (w1.alloc (Obj.cells #[Value.int .i64 e.o.k, Value.string e.o.t, Value.slice a e.o.r.length cc] 52)) := (Below.refl _ _).alloc (Nat.le_refl _) _
  have M0 : MkIn w h e w1.heap.size a cc (w1.alloc (Obj.cells #[Value.int .i64 e.o.k, Value.string e.o.t, Value.slice a e.o.r.length cc] 52)) 0 := ⟨b1.step hA, Blk.new w1 _ _, by rw [mixR_zero]; exact (hoo.below hA (Nat.le_refl _)).base hb0.size, hB1.trans (hA.mono hB1.size), hB1.size⟩
  generalize hm : w1.heap.size = m at M0
  have HM : Hid (w1.heap.size = m) := hm
  clear c1 b0 hb0 b1 hB1 hb1 hoo hA
  go_wp2

  clear hm
  go_loopw [7] (fun i wr => ∃ k : Nat, k ≤ e.o.r.length ∧ i = .int .i64 k ∧ MkIn w h e m a cc wr k) (fun i _ => e.o.r.length - (intOf i).toNat)
  case atStart => exact ⟨0, Nat.zero_le _, rfl, M0⟩
  case round =>
    obtain ⟨k, hk, rfl, M⟩ := hrel
    clear M0
    by_cases hlt : k < e.o.r.length
    · have hml := mixR_len (rootP h.rs) e.o.r k hk
      obtain ⟨g, rfl⟩ := M.ro.ptr (by omega)
      have hel' := M.ro.at (k := k) (by omega)
      rw [mixR_at _ _ _ hlt] at hel'
      have hsz := M.be.size
      have hdr : Below wr.heap.size wr wr.drew := (Below.refl _ _).drew
      have Md := M.step hdr
      have c2 := l4Root_any h e.o.r[k] wr.drew ((hq.isIn.sr).below Md.be (Nat.le_refl _)) c.small.r
      simp only [Hp.v] at c2
      obtain ⟨o0, o1, o2⟩ : wr.cell? ⟨m, 0, none⟩ = some (.int .i64 e.o.k) ∧ wr.cell? ⟨m, 1, none⟩ = some (.string e.o.t) ∧ wr.cell? ⟨m, 2, none⟩ = some (.slice (some ⟨g, 0, none⟩) e.o.r.length cc) := ⟨M.bo.cell 0, M.bo.cell 1, M.bo.cell 2⟩
      obtain ⟨x0, x1, x2, x3⟩ := cells4' M.b.bh
      have hS : (fun W' => W'.cell? ⟨m, 2, none⟩ = some (.slice (some ⟨g, 0, none⟩) e.o.r.length cc) ∧ W'.cell? ⟨w.heap.size, 0, none⟩ = some (.slice h.oa h.os.length h.ocap) ∧ W'.cell? ⟨w.heap.size, 1, none⟩ = some (.slice h.ra h.rs.length h.rcap) ∧ W'.cell? ⟨w.heap.size, 2, none⟩ = some (.slice h.wa h.ws.length h.wcap) ∧ W'.cell? ⟨w.heap.size, 3, none⟩ = some (.slice h.da h.ds.length h.dcap)) wr.drew := ⟨o2, x0, x1, x2, x3⟩
      have hi1 : (k : Int) < (e.o.r.length : Int) := by omega
      have hed : wr.drew.cell? ⟨g, k, none⟩ = some (.int .i64 e.o.r[k]) := hel'
      have HSt : Hid (∀ w2, Below wr.drew.heap.size wr.drew w2 → ((fun W' => W'.cell? ⟨m, 2, none⟩ = some (.slice (some ⟨g, 0, none⟩) e.o.r.length cc) ∧ W'.cell? ⟨w.heap.size, 0, none⟩ = some (.slice h.oa h.os.length h.ocap) ∧ W'.cell? ⟨w.heap.size, 1, none⟩ = some (.slice h.ra h.rs.length h.rcap) ∧ W'.cell? ⟨w.heap.size, 2, none⟩ = some (.slice h.wa h.ws.length h.wcap) ∧ W'.cell? ⟨w.heap.size, 3, none⟩ = some (.slice h.da h.ds.length h.dcap)) w2 ∧ w2.cell? ⟨g, k, none⟩ = some (.int .i64 e.o.r[k]) ∧ w2.frozen? ⟨g, k, none⟩ = false) ∧ ((fun W' => W'.cell? ⟨m, 2, none⟩ = some (.slice (some ⟨g, 0, none⟩) e.o.r.length cc) ∧ W'.cell? ⟨w.heap.size, 0, none⟩ = some (.slice h.oa h.os.length h.ocap) ∧ W'.cell? ⟨w.heap.size, 1, none⟩ = some (.slice h.ra h.rs.length h.rcap) ∧ W'.cell? ⟨w.heap.size, 2, none⟩ = some (.slice h.wa h.ws.length h.wcap) ∧ W'.cell? ⟨w.heap.size, 3, none⟩ = some (.slice h.da h.ds.length h.dcap)) (w2.setCell ⟨g, k, none⟩ (.int .i64 (rootP h.rs e.o.r[k]))) ∧ MkIn w h e m (some ⟨g, 0, none⟩) cc (w2.setCell ⟨g, k, none⟩ (.int .i64 (rootP h.rs e.o.r[k]))) (k + 1))) := fun w2 hb2 => by
        have M2 := Md.step hb2
        have M3 := M2.set hlt
        have q0 := M2.ro.at (k := k) (by omega)
        rw [mixR_at _ _ _ hlt] at q0
        exact ⟨⟨⟨M2.bo.cell 2, cells4' M2.b.bh⟩, q0, M2.ro.free k⟩, ⟨M3.bo.cell 2, cells4' M3.b.bh⟩, M3⟩
      generalize hZ : e.o.r[k] = z at *
      clear hZ
      generalize hRZ : rootP h.rs z = Rz at *
      clear hRZ M Md hdr hml hel'
      go_wp2_with fail
      refine wp_region_held_drew (S := (fun W' => W'.cell? ⟨m, 2, none⟩ = some (.slice (some ⟨g, 0, none⟩) e.o.r.length cc) ∧ W'.cell? ⟨w.heap.size, 0, none⟩ = some (.slice h.oa h.os.length h.ocap) ∧ W'.cell? ⟨w.heap.size, 1, none⟩ = some (.slice h.ra h.rs.length h.rcap) ∧ W'.cell? ⟨w.heap.size, 2, none⟩ = some (.slice h.wa h.ws.length h.wcap) ∧ W'.cell? ⟨w.heap.size, 3, none⟩ = some (.slice h.da h.ds.length h.dcap))) (by kernel_rfl) hS (fun hHeld => ?_)
      clear hHeld
      refine take_if (i := 0) (v := ?_) 18 rfl rfl (by kernel_rfl) (by kernel_rfl) (by kernel_rfl) (fun _ _ _ h => h) (Or.inl ⟨by rfl, ?_⟩) hS ?_
      rotate_left
      · intro W hSw
        try dsimp only at hSw
        go_simp
        try with_reducible rfl
      simp only [List.setIfInBounds_toArray, List.set_cons_zero, List.set_cons_succ]
      refine take_if (i := 1) (v := ?_) 19 rfl rfl (by kernel_rfl) (by kernel_rfl) (by kernel_rfl) (fun _ _ _ h => h) (Or.inl ⟨by rfl, ?_⟩) hS ?_
      rotate_left
      · intro W hSw
        try dsimp only at hSw
        go_simp
        try with_reducible rfl
      simp only [List.setIfInBounds_toArray, List.set_cons_zero, List.set_cons_succ]
      refine take_if (i := 2) (v := ?_) 20 rfl rfl (by kernel_rfl) (by kernel_rfl) (by kernel_rfl) (fun _ _ _ h => h) (Or.inl ⟨by rfl, ?_⟩) hS ?_
      rotate_left
      · intro W hSw
        try dsimp only at hSw
        go_simp
        try with_reducible rfl
      simp only [List.setIfInBounds_toArray, List.set_cons_zero, List.set_cons_succ]
      refine take_if (i := 3) (v := ?_) 21 rfl rfl (by kernel_rfl) (by kernel_rfl) (by kernel_rfl) (fun _ _ _ h => h) (Or.inl ⟨by rfl, ?_⟩) hS ?_
      rotate_left
      · intro W hSw
        try dsimp only at hSw
        go_simp
        try with_reducible rfl
      simp only [List.setIfInBounds_toArray, List.set_cons_zero, List.set_cons_succ]
      refine take_if (i := 4) (v := ?_) 22 rfl rfl (by kernel_rfl) (by kernel_rfl) (by kernel_rfl) (fun _ _ _ h => h) (Or.inl ⟨by rfl, ?_⟩) hS ?_
      rotate_left
      · intro W hSw
        try dsimp only at hSw
        go_simp
        try with_reducible rfl
      simp only [List.setIfInBounds_toArray, List.set_cons_zero, List.set_cons_succ]
      refine take_if (i := 5) (v := ?_) 23 rfl rfl (by kernel_rfl) (by kernel_rfl) (by kernel_rfl) (fun _ _ _ h => h) (Or.inl ⟨by rfl, ?_⟩) hS ?_
      rotate_left
      · intro W hSw
        try dsimp only at hSw
        go_simp
        try with_reducible rfl
      simp only [List.setIfInBounds_toArray, List.set_cons_zero, List.set_cons_succ]
      refine take_if (i := 6) (v := ?_) 24 rfl rfl (by kernel_rfl) (by kernel_rfl) (by kernel_rfl) (fun _ _ _ h => h) (Or.inl ⟨by rfl, ?_⟩) hS ?_
      rotate_left
      · intro W hSw
        try dsimp only at hSw
        go_simp
        try with_reducible rfl
      simp only [List.setIfInBounds_toArray, List.set_cons_zero, List.set_cons_succ]
      refine take_if (i := 7) (v := ?_) 25 rfl rfl (by kernel_rfl) (by kernel_rfl) (by kernel_rfl) (fun _ _ _ h => h) (Or.inl ⟨by rfl, ?_⟩) hS ?_
      rotate_left
      · intro W hSw
        try dsimp only at hSw
        go_simp
        try with_reducible rfl
      simp only [List.setIfInBounds_toArray, List.set_cons_zero, List.set_cons_succ]
      refine wpAnyH_ready (rs := [8]) (by kernel_rfl) (by simp) ?_
      refine AllReadyH.cons (o := _) rfl (fun K hK => ?_) AllReadyH.nil
      go_simp
      refine hK.out _ _ hS (fun _ => ?_)
      clear hK K
      try simp only [Act.put, List.setIfInBounds_toArray, List.set_cons_zero, List.set_cons_succ]
      refine wpAnyH_ready (rs := [9]) (by kernel_rfl) (by simp) ?_
      refine AllReadyH.cons (o := _) rfl (fun K hK => ?_) AllReadyH.nil
      go_simp
      refine c2.mono ?_
      rintro en w2 ⟨rfl, hb2⟩
      obtain ⟨⟨hS2, q0, q1⟩, hS3, M3⟩ := HSt.out w2 hb2
      go_wp2_with fail
      refine hK.out _ _ hS2 (fun _ => ?_)
      clear hK K
      try simp only [Act.put, List.setIfInBounds_toArray, List.set_cons_zero, List.set_cons_succ]
      refine take_if (i := 10) (v := ?_) 28 rfl rfl (by kernel_rfl) (by kernel_rfl) (by kernel_rfl) (fun _ _ _ h => h) (Or.inl ⟨by rfl, ?_⟩) hS2 ?_
      rotate_left
      · intro W hSw
        try dsimp only at hSw
        go_simp
        try with_reducible rfl
      simp only [List.setIfInBounds_toArray, List.set_cons_zero, List.set_cons_succ]
      refine wpAnyH_ready (rs := [11]) (by kernel_rfl) (by simp) ?_
      refine AllReadyH.cons (o := _) rfl (fun K hK => ?_) AllReadyH.nil
      go_simp
      refine hK.out _ _ hS3 (fun _ => ?_)
      clear hK K
      try simp only [Act.put]
      refine wpAnyH_done (by kernel_rfl) ?_ _
      clear HSt c2
      go_wp2
      go_roundw
      case rel => exact ⟨k + 1, by omega, by go_num, M3⟩
      case measure => simp [intOf]; omega
    · obtain rfl : k = e.o.r.length := by omega
      have hro := M.ro
      rw [mixR_all] at hro
      have hrl : (e.o.r.map (rootP h.rs)).length = e.o.r.length := List.length_map _
      have hsg : SegI wr a (e.o.r.map (rootP h.rs)) := by
        obtain ⟨a', cap, q, hs, _⟩ := hro.form
        simp only [Value.slice.injEq] at q
        rw [q.1]; exact hs
      have hn60 := c.n60
      have c3 := l1ObjOk_any e.o.k e.o.t a e.o.r.length cc (e.o.r.map (rootP h.rs)) (h.os.length : Int) wr hrl (by unfold maxLen; omega) het hsg (by omega) (by omega)
      obtain ⟨o0, o1, o2⟩ : wr.cell? ⟨m, 0, none⟩ = some (.int .i64 e.o.k) ∧ wr.cell? ⟨m, 1, none⟩ = some (.string e.o.t) ∧ wr.cell? ⟨m, 2, none⟩ = some (.slice a e.o.r.length cc) := ⟨M.bo.cell 0, M.bo.cell 1, M.bo.cell 2⟩
      obtain ⟨⟨x0, x1, x2, x3⟩, ⟨y0, y1, y2, y3, y4, y5, y6⟩, ⟨r0, r1, r2, r3⟩, f0, f1, f2, f3⟩ := M.b.cells
      go_wp2_with fail
      refine c3.mono ?_
      rintro en w2 ⟨rfl, hb2⟩
      have M2 := M.step hb2
      have hro2 := hro.below hb2 (Nat.le_refl _)
      have hq2 := hq.below M2.be (Nat.le_refl _)
      have hBB : Md B T w w2 := Md.of M2.be hB
      have hB2 := M2.be.size
      obtain ⟨hqE, hbE, z0, z1, z2, z3⟩ := ret_heap M2.b.br hq2 hBB (by omega) (by omega) _ _ _ _ rfl rfl rfl rfl
      clear c3 M hro hsg hb2 o0 o1 o2 x0 x1 x2 x3 y0 y1 y2 y3 y4 y5 y6 r0 r1 r2 r3 f0 f1 f2 f3
      obtain ⟨o0, o1, o2⟩ : w2.cell? ⟨m, 0, none⟩ = some (.int .i64 e.o.k) ∧ w2.cell? ⟨m, 1, none⟩ = some (.string e.o.t) ∧ w2.cell? ⟨m, 2, none⟩ = some (.slice a e.o.r.length cc) := ⟨M2.bo.cell 0, M2.bo.cell 1, M2.bo.cell 2⟩
      obtain ⟨⟨x0, x1, x2, x3⟩, ⟨y0, y1, y2, y3, y4, y5, y6⟩, ⟨r0, r1, r2, r3⟩, f0, f1, f2, f3⟩ := M2.b.cells
      cases hobj : objOk (h.os.length : Int) (e.o.k, e.o.t, e.o.r.map (rootP h.rs)) with
      | false =>
        clear hobj
        go_wp2
        refine bodyPost_ret (v := .tuple #[h.v, .string ⟨#[110, 111]⟩]) ?_ rfl ⟨h, _, rfl, c, hqE, hbE⟩
        simp [results, Try.results96, go_sem, z0, z1, z2, z3, Hp.v]
      | true =>
        have HOB : Hid (objOk (h.os.length : Int) (e.o.k, e.o.t, e.o.r.map (rootP h.rs)) = true) := hobj
        clear hobj
        by_cases hfull : 60 ≤ h.os.length
        · have hf : (60 : Int) ≤ (h.os.length : Int) := by omega
          go_wp2
          refine bodyPost_ret (v := .tuple #[h.v, .string ⟨#[102, 117, 108, 108]⟩]) ?_ rfl ⟨h, _, rfl, c, hqE, hbE⟩
          simp [results, Try.results96, go_sem, z0, z1, z2, z3, Hp.v]
        · have hf : ¬ (60 : Int) ≤ (h.os.length : Int) := by omega
          have hfd : decide ((60 : Int) ≤ (h.os.length : Int)) = false := by simpa using hf
          clear hqE hbE z0 z1 z2 z3
          obtain ⟨gr, hgr⟩ := hq.ro.ptr (by omega)
          have HGR : Hid (h.ra = some ⟨gr, 0, none⟩) := hgr
          have hA : Below w2.heap.size w2 (w2.alloc (Obj.cells #[Value.int .i64 e.o.k, Value.string e.o.t, Value.slice a e.o.r.length cc] 52)) := (Below.refl _ _).alloc (Nat.le_refl _) _
          have MA := M2.step hA
          have hqA := hq2.below hA (Nat.le_refl _)
          have hroA := hro2.below hA (Nat.le_refl _)
          have hvA : (w2.alloc (Obj.cells #[Value.int .i64 e.o.k, Value.string e.o.t, Value.slice a e.o.r.length cc] 52)).ownsRow B 52 3 (.slice h.oa h.os.length h.ocap) h.os.length (h.os.flatMap Ob.cs) := hqA.ob
          have hsA : B ≤ (w2.alloc (Obj.cells #[Value.int .i64 e.o.k, Value.string e.o.t, Value.slice a e.o.r.length cc] 52)).heap.size := Nat.le_trans (Nat.le_trans hB hB2) hA.size
          have HEND : Hid (∀ v' w3, w3.ownsRow B 52 3 v' (h.os.length + 1) (h.os.flatMap Ob.cs ++ [Value.int .i64 e.o.k, Value.string e.o.t, Value.slice a e.o.r.length cc]) → (w2.alloc (Obj.cells #[Value.int .i64 e.o.k, Value.string e.o.t, Value.slice a e.o.r.length cc] 52)).grownBy w3 (Value.slice h.oa h.os.length h.ocap).ownBlock →
              ∃ a' cap, v' = .slice a' (h.os.length + 1) cap ∧ Bx3 w w3 h e ∧ Md B T w w3 ∧ OwnQ w3 B { h with oa := a', ocap := cap, os := h.os ++ [⟨e.o.k, e.o.t, a, cc, e.o.r.map (rootP h.rs)⟩] } ∧ OkC { h with oa := a', ocap := cap, os := h.os ++ [⟨e.o.k, e.o.t, a, cc, e.o.r.map (rootP h.rs)⟩], rs := h.rs.set e.to.toNat (h.os.length : Int) }) := fun v' w3 hown hgr => by
            have ho : OwnB w3 B v' (h.os ++ [⟨e.o.k, e.o.t, a, cc, e.o.r.map (rootP h.rs)⟩]) := by unfold OwnB; simpa [Ob.cs] using hown
            obtain ⟨a', cap, ev, -, -⟩ := ho.form
            have ev' : v' = .slice a' (h.os.length + 1) cap := by simpa using ev
            subst ev
            have hrv : (⟨e.o.k, e.o.t, a, cc, e.o.r.map (rootP h.rs)⟩ : Ob).rv = .slice a e.o.r.length cc := by simp [Ob.rv]
            have hlow : ∀ k, (Value.slice a e.o.r.length cc).ownBlock = some k → w.heap.size ≤ k := fun k q => (hroA.lt k q).1
            refine ⟨a', cap, ev', ⟨MA.b.bh.grown hgr (row_ne_blk hvA MA.b.bh (by decide)), MA.b.bv.grown hgr (row_ne_blk hvA MA.b.bv (by decide)), MA.b.br.grown hgr (row_ne_blk hvA MA.b.br (by decide))⟩, (Md.of MA.be hB).grown hgr (fun k q => ⟨(hvA.lt k q).1, Or.inl (hT.o k q)⟩) hsA, hqA.growO hgr ho (by rw [hrv]; exact hroA.base hB) (fun i hi => by rw [hrv]; exact apart_lt (hq.rs i hi) (Nat.le_refl _) hlow) (by rw [hrv]; exact (apart_lt hq.ro (Nat.le_refl _) hlow).symm), c.make (o := ⟨e.o.k, e.o.t, a, cc, e.o.r.map (rootP h.rs)⟩) HOB.out (by omega) _ a' cap⟩
          have hl1 : h.os.length + 1 ≤ maxLen := by unfold maxLen; omega
          have hl2 : (h.os.length + 1) * 48 ≤ 140737488355328 := by omega
          clear hA MA hqA hroA hf hfull
          go_wp2_with (at_builtin; refine wpList_append_own_at _ rfl _ _ 23 rfl B 52 i0 _ 3 48 Try.underlying23 hi hz0 hz1 hz2 rfl (by decide) _ _ _ rfl hvA ⟨w2.heap.size, 0, none⟩ 1 1 [Value.int .i64 e.o.k, Value.string e.o.t, Value.slice a e.o.r.length cc] rfl rfl (obj_new ⟨e.o.k, e.o.t, a, cc, e.o.r⟩ _) (Ob.one ⟨e.o.k, e.o.t, a, cc, e.o.r⟩) hl1 hl2 hsA ?_)
          intro v' w3 hown hgrw _ _
          obtain ⟨a', cap, rfl, b3, hB3, hq3, c3⟩ := HEND.out v' w3 hown hgrw
          have HQ3 : Hid (OwnQ w3 B { h with oa := a', ocap := cap, os := h.os ++ [⟨e.o.k, e.o.t, a, cc, e.o.r.map (rootP h.rs)⟩] }) := hq3
          have hgl : gr < w.heap.size := by
            have := hq.ro
            rw [hgr] at this
            exact (this.lt gr rfl).2
          have hgB : B ≤ gr := by
            have := hq.ro
            rw [hgr] at this
            exact (this.lt gr rfl).1
          have hro3 : OwnL w3 B (.slice (some ⟨gr, 0, none⟩) h.rs.length h.rcap) h.rs := by
            have := hq3.ro
            simp only [hgr] at this
            exact this
          have htl : e.to.toNat < h.rs.length := by omega
          have q0 := hro3.at htl
          have q1 := hro3.free e.to.toNat
          have k4 : KeepT 27 w3 (w3.setCell ⟨w.heap.size, 0, none⟩ (.slice a' (h.os.length + 1) cap)) := KeepT.set b3.bh 0 _
          have hq5 := (hq3.keep k4).setRoot (g := gr) hgr e.to.toNat (h.os.length : Int)
          have n1 : w.heap.size ≠ gr := by omega
          have bh5 := (b3.bh.store 0 (.slice a' (h.os.length + 1) cap)).other ⟨gr, e.to.toNat, none⟩ (.int .i64 (h.os.length : Int)) n1
          have bv5 := (b3.bv.other ⟨w.heap.size, 0, none⟩ (.slice a' (h.os.length + 1) cap) (by dsimp only; omega)).other ⟨gr, e.to.toNat, none⟩ (.int .i64 (h.os.length : Int)) (by dsimp only; omega)
          have br5 := (b3.br.other ⟨w.heap.size, 0, none⟩ (.slice a' (h.os.length + 1) cap) (by dsimp only; omega)).other ⟨gr, e.to.toNat, none⟩ (.int .i64 (h.os.length : Int)) (by dsimp only; omega)
          have hgT : gr < T := hT.r gr (by rw [hgr]; rfl)
          have hB5 := (hB3.set (p := ⟨w.heap.size, 0, none⟩) hB (Or.inr (Nat.le_refl _)) (.slice a' (h.os.length + 1) cap)).set (p := ⟨gr, e.to.toNat, none⟩) hgB (Or.inl hgT) (.int .i64 (h.os.length : Int))
          have hro5 : OwnL ((w3.setCell ⟨w.heap.size, 0, none⟩ (.slice a' (h.os.length + 1) cap)).setCell ⟨gr, e.to.toNat, none⟩ (.int .i64 (h.os.length : Int))) B (.slice (some ⟨gr, 0, none⟩) h.rs.length h.rcap) (h.rs.set e.to.toNat (h.os.length : Int)) := by
            have := hq5.ro
            simp only [hgr, List.length_set] at this
            exact this
          have q5 := hro5.at (k := e.to.toNat) (by simpa using htl)
          rw [List.getElem_set_self] at q5
          have f5 := b3.bh.free 0
          clear hown hgrw HEND hvA o0 o1 o2 x0 x1 x2 x3 y0 y1 y2 y3 y4 y5 y6 r0 r1 r2 r3 f0 f1 f2 f3
          obtain ⟨⟨x0, x1, x2, x3⟩, ⟨y0, y1, y2, y3, y4, y5, y6⟩, ⟨r0, r1, r2, r3⟩, f0, f1, f2, f3⟩ := b3.cells
          obtain ⟨s0, s1, s2, s3⟩ := cells4'' bh5
          have t1 := bv5.cell 1
          simp only [List.getElem?_cons_zero, List.getElem?_cons_succ] at t1
          have c5 := l4Sees_any { h with oa := a', ocap := cap, os := h.os ++ [⟨e.o.k, e.o.t, a, cc, e.o.r.map (rootP h.rs)⟩], rs := h.rs.set e.to.toNat (h.os.length : Int) } (h.os.length : Int) (((w3.setCell ⟨w.heap.size, 0, none⟩ (.slice a' (h.os.length + 1) cap)).setCell ⟨gr, e.to.toNat, none⟩ (.int .i64 (h.os.length : Int))).drew) (hq5.isIn.so.below ((Below.refl _ _).drew) (Nat.le_refl _)) (fun i hi => by have := (c3.kind i hi).1; omega) (by simp; omega)
          simp only [Hp.v, List.length_set, List.length_append, List.length_cons, List.length_nil, hgr] at c5
          have HB5 : Hid (∀ w6, Below ((w3.setCell ⟨w.heap.size, 0, none⟩ (.slice a' (h.os.length + 1) cap)).setCell ⟨gr, e.to.toNat, none⟩ (.int .i64 (h.os.length : Int))).drew.heap.size ((w3.setCell ⟨w.heap.size, 0, none⟩ (.slice a' (h.os.length + 1) cap)).setCell ⟨gr, e.to.toNat, none⟩ (.int .i64 (h.os.length : Int))).drew w6 → (fun (W' : World) => (W'.cell? ⟨w.heap.size, 0, none⟩ = some (.slice a' (h.os.length + 1) cap) ∧ W'.cell? ⟨w.heap.size, 1, none⟩ = some (.slice (some ⟨gr, 0, none⟩) h.rs.length h.rcap) ∧ W'.cell? ⟨w.heap.size, 2, none⟩ = some (.slice h.wa h.ws.length h.wcap) ∧ W'.cell? ⟨w.heap.size, 3, none⟩ = some (.slice h.da h.ds.length h.dcap)) ∧ W'.cell? ⟨w.heap.size + 1, 1, none⟩ = some (.int .i64 e.to) ∧ W'.cell? ⟨gr, e.to.toNat, none⟩ = some (.int .i64 (h.os.length : Int))) w6 ∧ Blk w6 (w.heap.size + 1 + 1) [Value.slice none 0 0, Value.slice none 0 0, Value.slice none 0 0, Value.slice none 0 0] 27 ∧ Md B T w w6 ∧ OwnQ w6 B { h with oa := a', ocap := cap, os := h.os ++ [⟨e.o.k, e.o.t, a, cc, e.o.r.map (rootP h.rs)⟩], rs := h.rs.set e.to.toNat (h.os.length : Int) }) := fun w6 hb6 => by
            have hb6' : Below ((w3.setCell ⟨w.heap.size, 0, none⟩ (.slice a' (h.os.length + 1) cap)).setCell ⟨gr, e.to.toNat, none⟩ (.int .i64 (h.os.length : Int))).heap.size ((w3.setCell ⟨w.heap.size, 0, none⟩ (.slice a' (h.os.length + 1) cap)).setCell ⟨gr, e.to.toNat, none⟩ (.int .i64 (h.os.length : Int))) w6 := ((Below.refl _ _).drew).trans hb6
            have bh6 := bh5.step hb6'
            have bv6 := bv5.step hb6'
            have qq6 := (hro5.below hb6' (Nat.le_refl _)).at (k := e.to.toNat) (by simpa using htl)
            rw [List.getElem_set_self] at qq6
            refine ⟨⟨⟨bh6.cell 0, ?_, bh6.cell 2, bh6.cell 3⟩, bv6.cell 1, qq6⟩, br5.step hb6', hB5.step hb6' hB, hq5.below hb6' (Nat.le_refl _)⟩
            have := bh6.cell 1
            rw [hgr] at this
            exact this
          have HS7 : Hid (∀ w6 : World, (fun (W' : World) => (W'.cell? ⟨w.heap.size, 0, none⟩ = some (.slice a' (h.os.length + 1) cap) ∧ W'.cell? ⟨w.heap.size, 1, none⟩ = some (.slice (some ⟨gr, 0, none⟩) h.rs.length h.rcap) ∧ W'.cell? ⟨w.heap.size, 2, none⟩ = some (.slice h.wa h.ws.length h.wcap) ∧ W'.cell? ⟨w.heap.size, 3, none⟩ = some (.slice h.da h.ds.length h.dcap)) ∧ W'.cell? ⟨w.heap.size + 1, 1, none⟩ = some (.int .i64 e.to) ∧ W'.cell? ⟨gr, e.to.toNat, none⟩ = some (.int .i64 (h.os.length : Int))) w6 → (fun (W' : World) => (W'.cell? ⟨w.heap.size, 0, none⟩ = some (.slice a' (h.os.length + 1) cap) ∧ W'.cell? ⟨w.heap.size, 1, none⟩ = some (.slice (some ⟨gr, 0, none⟩) h.rs.length h.rcap) ∧ W'.cell? ⟨w.heap.size, 2, none⟩ = some (.slice h.wa h.ws.length h.wcap) ∧ W'.cell? ⟨w.heap.size, 3, none⟩ = some (.slice h.da h.ds.length h.dcap)) ∧ W'.cell? ⟨w.heap.size + 1, 1, none⟩ = some (.int .i64 e.to) ∧ W'.cell? ⟨gr, e.to.toNat, none⟩ = some (.int .i64 (h.os.length : Int))) ((((w6.setCell ⟨w.heap.size + 1 + 1, 0, none⟩ (.slice a' (h.os.length + 1) cap)).setCell ⟨w.heap.size + 1 + 1, 1, none⟩ (.slice (some ⟨gr, 0, none⟩) h.rs.length h.rcap)).setCell ⟨w.heap.size + 1 + 1, 2, none⟩ (.slice h.wa h.ws.length h.wcap)).setCell ⟨w.heap.size + 1 + 1, 3, none⟩ (.slice h.da h.ds.length h.dcap))) := fun w6 hs => by
            have sc : ∀ (p : Addr) (u : Value), p.block ≠ w.heap.size + 1 + 1 → w6.cell? p = some u → ((((w6.setCell ⟨w.heap.size + 1 + 1, 0, none⟩ (.slice a' (h.os.length + 1) cap)).setCell ⟨w.heap.size + 1 + 1, 1, none⟩ (.slice (some ⟨gr, 0, none⟩) h.rs.length h.rcap)).setCell ⟨w.heap.size + 1 + 1, 2, none⟩ (.slice h.wa h.ws.length h.wcap)).setCell ⟨w.heap.size + 1 + 1, 3, none⟩ (.slice h.da h.ds.length h.dcap)).cell? p = some u := fun p u hp hc => by
              rw [World.cell?_of_block (Below.heap_setCell _ _ _ _ hp), World.cell?_of_block (Below.heap_setCell _ _ _ _ hp), World.cell?_of_block (Below.heap_setCell _ _ _ _ hp), World.cell?_of_block (Below.heap_setCell _ _ _ _ hp)]; exact hc
            have p1 : w.heap.size ≠ w.heap.size + 1 + 1 := by omega
            have p2 : w.heap.size + 1 ≠ w.heap.size + 1 + 1 := by omega
            have p3 : gr ≠ w.heap.size + 1 + 1 := by omega
            exact ⟨⟨sc _ _ p1 hs.1.1, sc _ _ p1 hs.1.2.1, sc _ _ p1 hs.1.2.2.1, sc _ _ p1 hs.1.2.2.2⟩, sc _ _ p2 hs.2.1, sc _ _ p3 hs.2.2⟩
          rw [hgr] at x1 s1
          clear hq5 bh5 bv5 br5 hB5 hro5 hro3 hq3 k4 b3 hB3 M2 hq2 hBB hro2
          go_wp2_with fail
          go_region_held3 (fun (W' : World) => (W'.cell? ⟨w.heap.size, 0, none⟩ = some (.slice a' (h.os.length + 1) cap) ∧ W'.cell? ⟨w.heap.size, 1, none⟩ = some (.slice (some ⟨gr, 0, none⟩) h.rs.length h.rcap) ∧ W'.cell? ⟨w.heap.size, 2, none⟩ = some (.slice h.wa h.ws.length h.wcap) ∧ W'.cell? ⟨w.heap.size, 3, none⟩ = some (.slice h.da h.ds.length h.dcap)) ∧ W'.cell? ⟨w.heap.size + 1, 1, none⟩ = some (.int .i64 e.to) ∧ W'.cell? ⟨gr, e.to.toNat, none⟩ = some (.int .i64 (h.os.length : Int))) (first | (refine ⟨⟨?_, ?_, ?_, ?_⟩, ?_, ?_⟩ <;> with_reducible assumption) | go_keep)
            (first
              | (go_at_call 98; refine c5.mono ?_; rintro en w6 ⟨sx, rfl, hb6⟩; obtain ⟨⟨⟨m0, m1, m2, m3⟩, m4, m5⟩, br6, hB6, hq6⟩ := HB5.out w6 hb6; obtain ⟨u0, u1, u2, u3⟩ := cells4'' br6; obtain ⟨v0, v1, v2, v3⟩ := free4 br6; obtain ⟨⟨d0, d1, d2, d3⟩, d4, d5⟩ := HS7.out w6 ⟨⟨m0, m1, m2, m3⟩, m4, m5⟩))
          all_goals
            obtain ⟨hqE, hbE, z0, z1, z2, z3⟩ := ret_heap br6 hq6 hB6 (by omega) (by omega) (.slice a' (h.os.length + 1) cap) (.slice (some ⟨gr, 0, none⟩) h.rs.length h.rcap) (.slice h.wa h.ws.length h.wcap) (.slice h.da h.ds.length h.dcap) (by simp) (by simp [hgr]) rfl rfl
            clear br6 hq6 hB6 HB5 HS7 c5
            go_wp2
            refine bodyPost_ret (v := .tuple #[Hp.v { h with oa := a', ocap := cap, os := h.os ++ [⟨e.o.k, e.o.t, a, cc, e.o.r.map (rootP h.rs)⟩], rs := h.rs.set e.to.toNat (h.os.length : Int) }, .string sx]) ?_ rfl ⟨_, _, rfl, c3, hqE, hbE⟩
            simp [results, Try.results96, go_sem, z0, z1, z2, z3, Hp.v, hgr]
end Go.Proofs.Ytcpnkpogebjieaa
