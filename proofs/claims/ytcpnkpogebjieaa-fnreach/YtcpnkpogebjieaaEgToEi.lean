/- The specification's own drawing: a heap by events from nothing on. · The specification's own drawing: what of a heap in rows of its own stays when it is spoilt. No Go function is walked here. -/
import Derived.Test.YtcpnkpogebjieaaDzToEc
import Derived.Test.YtcpnkpogebjieaaEdToEe
import Derived.Test.YtcpnkpogebjieaaEf
namespace Go.Proofs.Ytcpnkpogebjieaa
open Go.RowKit

theorem info_event : (Try.prog.info? 118).map (fun i => (i.zero, i.size, i.bytes)) = some (some (.agg #[.int .i64 0, .int .i64 0, .int .i64 0, .int .i64 0, .int .i64 0, .string ⟨#[]⟩, .slice none 0 0]), 7, 80) := by kernel_rfl
theorem row_av {W : World} {B e size n g : Nat} {a : Option Addr} {m c : Nat} {xs : List Value} (h : W.ownsRow B e size (.slice a m c) n xs) (hg : g < B) : AvI a m (some g) := fun _ x hx e => by
  rcases h.2 with ⟨q, _⟩ | ⟨g', cap, cur, q, hB, _⟩
  · simp at q
    rw [q.1] at hx
    cases hx
  · simp only [Value.slice.injEq] at q
    rw [q.1] at hx
    cases hx
    simp at e
    omega
/-- A heap in rows of its own, above the reader, is not the reader. -/
theorem OwnQ.av {W : World} {B g : Nat} {h : Hp} (hh : OwnQ W B h) (hg : g < B) : HpAv h (some g) :=
  ⟨row_av hh.ob hg, fun i hi => row_av (hh.rs i hi) hg, row_av hh.ro hg, row_av hh.wa hg, row_av hh.da hg⟩
/-- .. and stays over a step that turns a row of events. -/
theorem OwnQ.turnE {W W' : World} {B base n : Nat} {h : Hp} {v : Value} {xs : List Value} (hh : OwnQ W B h) (hr : W.ownsRow base 118 7 v n xs) (hg : W.grownBy W' v.ownBlock) : OwnQ W' B h :=
  ⟨row_kept hh.ob hr hg (by decide), fun i hi => row_kept (hh.rs i hi) hr hg (by decide), hh.rne, row_kept hh.ro hr hg (by decide), hh.rro, row_kept hh.wa hr hg (by decide), row_kept hh.da hr hg (by decide), hh.wne⟩
theorem blk_ne {W : World} {B t base e size n : Nat} {cs : List Value} {v : Value} {xs : List Value} (h : Blk W B cs t) (hr : W.ownsRow base e size v n xs) (ht : t ≠ e) : v.ownBlock ≠ some B := fun q => by
  obtain ⟨c, u⟩ := row_ty hr q
  unfold Blk at h
  rw [h] at u
  simp at u
  exact ht u.2
theorem Blk.other4 {w : World} {B R : Nat} {cs : List Value} {t : TypeId} (h : Blk w B cs t) (hR : B ≠ R) (v0 v1 v2 v3 : Value) : Blk ((((w.setCell ⟨R, 0, none⟩ v0).setCell ⟨R, 1, none⟩ v1).setCell ⟨R, 2, none⟩ v2).setCell ⟨R, 3, none⟩ v3) B cs t :=
  (((h.other ⟨R, 0, none⟩ v0 hR).other ⟨R, 1, none⟩ v1 hR).other ⟨R, 2, none⟩ v2 hR).other ⟨R, 3, none⟩ v3 hR

/-- What is held while events are drawn and played. -/
structure EvW (w : World) (g : Nat) (cd : Cd) (B : Nat) (k : Int) (y : Hp) (v : Value) (n : Nat) (W : World) : Prop where
  dw : Dw w g cd k W
  bh : Blk W w.heap.size [Value.slice y.oa y.os.length y.ocap, Value.slice y.ra y.rs.length y.rcap, Value.slice y.wa y.ws.length y.wcap, Value.slice y.da y.ds.length y.dcap] 27
  br : Blk W (w.heap.size + 1) [Value.slice none 0 0, Value.slice none 0 0, Value.slice none 0 0, Value.slice none 0 0] 27
  ok : OkC y
  q : OwnQ W B y
  row : ∃ xs, W.ownsRow w.heap.size 118 7 v n xs
theorem EvW.grow {w : World} {g : Nat} {cd : Cd} {B : Nat} {k : Int} {y : Hp} {v : Value} {n : Nat} {W W' : World} (d : EvW w g cd B k y v n W) (hb : Below W.heap.size W W') : EvW w g cd B k y v n W' := by
  obtain ⟨xs, hr⟩ := d.row
  exact ⟨d.dw.grow hb, d.bh.below hb d.bh.lt, d.br.below hb d.br.lt, d.ok, d.q.below hb (Nat.le_refl _), xs, World.ownsRow.kept hr (gb_of_below hb (Nat.le_refl _) none) (by
    cases e : v.ownBlock with
    | none => exact Or.inl rfl
    | some k => exact Or.inr (by simp))⟩
/-- Over a call that draws. -/
theorem EvW.call {w : World} {g : Nat} {cd : Cd} {B : Nat} {k k' : Int} {y : Hp} {v : Value} {n : Nat} {W W' : World} (d : EvW w g cd B k y v n W) (hd : Dw W g cd k' W') (hg : g < B) : EvW w g cd B k' y v n W' := by
  obtain ⟨xs, hr⟩ := d.row
  have := d.dw.gw
  exact ⟨d.dw.call hd, hd.blk d.bh (by omega), hd.blk d.br (by omega), d.ok, d.q.far hd.gb hg, xs, row_far hr hd.gb d.dw.gw⟩
/-- Another heap laid into the heap's box. -/
theorem EvW.lay {w : World} {g : Nat} {cd : Cd} {B : Nat} {k : Int} {y y' : Hp} {v : Value} {n : Nat} {W : World} (d : EvW w g cd B k y v n W) (ok : OkC y') (hq : OwnQ W B y') : EvW w g cd B k y' v n ((((W.setCell ⟨w.heap.size, 0, none⟩ (.slice y'.oa y'.os.length y'.ocap)).setCell ⟨w.heap.size, 1, none⟩ (.slice y'.ra y'.rs.length y'.rcap)).setCell ⟨w.heap.size, 2, none⟩ (.slice y'.wa y'.ws.length y'.wcap)).setCell ⟨w.heap.size, 3, none⟩ (.slice y'.da y'.ds.length y'.dcap)) := by
  obtain ⟨xs, hr⟩ := d.row
  obtain ⟨kq, bq⟩ := put4 d.bh (.slice y'.oa y'.os.length y'.ocap) (.slice y'.ra y'.rs.length y'.rcap) (.slice y'.wa y'.ws.length y'.wcap) (.slice y'.da y'.ds.length y'.dcap)
  exact ⟨d.dw.sets4 (Nat.le_refl _) _ _ _ _, bq, d.br.other4 (by omega) _ _ _ _, ok, hq.keep kq, xs, row_keep hr kq (by decide)⟩
/-- One event more in the list. -/
theorem EvW.more {w : World} {g : Nat} {cd : Cd} {B : Nat} {k : Int} {y : Hp} {v v' : Value} {n : Nat} {W W' : World} {xs xs' : List Value} (d : EvW w g cd B k y v n W) (hr : W.ownsRow w.heap.size 118 7 v n xs) (hg : W.grownBy W' v.ownBlock) (hr' : W'.ownsRow w.heap.size 118 7 v' (n + 1) xs') : EvW w g cd B k y v' (n + 1) W' :=
  ⟨d.dw.step hg (fun j e => (World.ownsRow.lt hr j e).1), d.bh.grown hg (blk_ne d.bh hr (by decide)), d.br.grown hg (blk_ne d.br hr (by decide)), d.ok, d.q.turnE hr hg, xs', hr'⟩

set_option maxHeartbeats 1600000 in
set_option maxRecDepth 100000 in
theorem l5Events_any (h : Hp) (pl : Bool) (g : Nat) (cd : Cd) (k : Int) (B most : Nat) (w : World) (hc : CdOk cd) (hr : Rd w g cd k) (hm : most ≤ 40) (hk : k + 1 + 20 * most < 999000) (c : OkC h) (hq : OwnQ w B h) (hg : g < B) (hB : B ≤ w.heap.size) :
    Calls Try.prog 78 #[.pointer (some ⟨g, 0, none⟩), h.v, .int .i64 (most : Int), .bool pl] w fun en w' => ∃ (y : Hp) (v : Value) (k' : Int), en = .returned (.tuple #[y.v, v]) ∧ OkC y ∧ OwnQ w' B y ∧ Dw w g cd k' w' ∧ k' ≤ k + 1 + 20 * most := by
  obtain ⟨i0, hi0, hz0, hz1, hz2⟩ := info_parts info_event
  have hA : Below w.heap.size w (((w.alloc (Obj.cells #[Value.slice h.oa h.os.length h.ocap, Value.slice h.ra h.rs.length h.rcap, Value.slice h.wa h.ws.length h.wcap, Value.slice h.da h.ds.length h.dcap] 27)).alloc (Obj.cells #[Value.slice none 0 0, Value.slice none 0 0, Value.slice none 0 0, Value.slice none 0 0] 27)).alloc (Obj.cells #[] 118)) := (((Below.refl _ _).alloc (Nat.le_refl _) _).alloc (by simp) _).alloc (by simp; omega) _
  have d0 : EvW w g cd B k h (.slice (some ⟨w.heap.size + 1 + 1, 0, none⟩) 0 0) 0 (((w.alloc (Obj.cells #[Value.slice h.oa h.os.length h.ocap, Value.slice h.ra h.rs.length h.rcap, Value.slice h.wa h.ws.length h.wcap, Value.slice h.da h.ds.length h.dcap] 27)).alloc (Obj.cells #[Value.slice none 0 0, Value.slice none 0 0, Value.slice none 0 0, Value.slice none 0 0] 27)).alloc (Obj.cells #[] 118)) := by
    refine ⟨(Dw.start hr).grow hA, ((Blk.new w _ _).alloc _).alloc _, ?_, c, hq.below hA (Nat.le_refl _), [], ?_⟩
    · have := (Blk.new (w.alloc (Obj.cells #[Value.slice h.oa h.os.length h.ocap, Value.slice h.ra h.rs.length h.rcap, Value.slice h.wa h.ws.length h.wcap, Value.slice h.da h.ds.length h.dcap] 27)) [Value.slice none 0 0, Value.slice none 0 0, Value.slice none 0 0, Value.slice none 0 0] 27).alloc (Obj.cells #[] 118)
      simpa using this
    · have := World.ownsRow_lit (e := 118) (size := 7) (base := w.heap.size) ((w.alloc (Obj.cells #[Value.slice h.oa h.os.length h.ocap, Value.slice h.ra h.rs.length h.rcap, Value.slice h.wa h.ws.length h.wcap, Value.slice h.da h.ds.length h.dcap] 27)).alloc (Obj.cells #[Value.slice none 0 0, Value.slice none 0 0, Value.slice none 0 0, Value.slice none 0 0] 27)) #[] 0 (by simp; omega) (Nat.zero_le _) rfl
      simpa using this
  go_enter Try.func78, Try.ntmps78
  simp only [Hp.v]
  go_upto_region 2 with fail
  generalize (((w.alloc (Obj.cells #[Value.slice h.oa h.os.length h.ocap, Value.slice h.ra h.rs.length h.rcap, Value.slice h.wa h.ws.length h.wcap, Value.slice h.da h.ds.length h.dcap] 27)).alloc (Obj.cells #[Value.slice none 0 0, Value.slice none 0 0, Value.slice none 0 0, Value.slice none 0 0] 27)).alloc (Obj.cells #[] 118)) = W0 at *
  clear hA
  have c1 := pick_any g cd k most W0 hc d0.dw.rd (by omega) (by omega)
  go_wp2_with fail
  refine c1.mono ?_
  rintro en w1 ⟨z, rfl, hz, hz1', hz0', hP⟩
  have d1 := d0.call (k' := k + 1) ⟨hP.gb, hP.rd, d0.dw.rd.blk.lt⟩ hg
  have hzm : z ≤ most := by omega
  clear c1 hP d0 hz1' hz0'
  go_wp2
  go_loopw [10, 11] (fun v i wr => ∃ (j n : Nat) (y : Hp) (k' : Int), i = .int .i64 j ∧ n + j ≤ most ∧ k' + 20 * j ≤ k + 1 + 20 * most ∧ EvW w g cd B k' y v n wr) (fun _ i _ => (intOf i).toNat)
  case atStart => exact ⟨z.toNat, 0, h, k + 1, by go_num, by omega, by omega, d1⟩
  case round =>
    clear d1
    obtain ⟨j, n, y, k', rfl, hjn, hkk, d⟩ := hrel
    obtain ⟨b0, b1, b2, b3⟩ := cells4'' d.bh
    by_cases hj : 0 < j
    · have hjb : decide (0 < (j : Int)) = true := by simpa using hj
      have c1 := l5Draw_any y pl g cd k' wr hc d.dw.rd (by omega) d.ok d.q.isIn (d.q.av hg)
      simp only [Hp.v] at c1
      go_wp2_with fail
      refine c1.mono ?_
      rintro en w1 ⟨e, k'', rfl, ho, hl, ht, dW, hk''⟩
      have d1 := d.call dW hg
      have hA : Below w1.heap.size w1 (w1.alloc (Obj.cells #[Value.int .i64 e.k, Value.int .i64 e.to, Value.int .i64 e.fr, Value.int .i64 e.pt, Value.int .i64 e.o.k, Value.string e.o.t, Value.slice e.o.ra e.o.r.length e.o.rcap] 118)) := (Below.refl _ _).alloc (Nat.le_refl _) _
      have d2 := d1.grow hA
      have be2 := Blk.new w1 e.cs 118
      simp only [Ev.cs] at be2
      have hs2 : SegI (w1.alloc (Obj.cells #[Value.int .i64 e.k, Value.int .i64 e.to, Value.int .i64 e.fr, Value.int .i64 e.pt, Value.int .i64 e.o.k, Value.string e.o.t, Value.slice e.o.ra e.o.r.length e.o.rcap] 118)) e.o.ra e.o.r := by
        refine SegI.below ?_ hA (Nat.le_refl _)
        obtain ⟨a, cap, q, hs, _⟩ := ho.form
        simp only [Value.slice.injEq] at q
        rw [q.1]
        exact hs
      have hwb : w.heap.size + 1 < w1.heap.size := d1.br.lt
      clear b0 b1 b2 b3 c1 d d1 dW hA ho
      simp only [Ev.v, Ev.cs]
      go_upto_region 6 with fail
      generalize (w1.alloc (Obj.cells #[Value.int .i64 e.k, Value.int .i64 e.to, Value.int .i64 e.fr, Value.int .i64 e.pt, Value.int .i64 e.o.k, Value.string e.o.t, Value.slice e.o.ra e.o.r.length e.o.rcap] 118)) = W2 at *
      generalize w1.heap.size = eb at *
      obtain ⟨b0, b1, b2, b3⟩ := cells4'' d2.bh
      have x0 := be2.cell 0
      have x1 := be2.cell 1
      have x2 := be2.cell 2
      have x3 := be2.cell 3
      have x4 := be2.cell 4
      have x5 := be2.cell 5
      have x6 := be2.cell 6
      simp only [List.getElem?_cons_zero, List.getElem?_cons_succ] at x0 x1 x2 x3 x4 x5 x6
      have c2 := specMemStep_any y e W2 (d2.ok.fitQ d2.q) d2.ok hs2 (by omega) (by unfold maxLen; omega)
      simp only [Hp.v, Ev.v, Ev.cs] at c2
      go_wp2_with fail
      refine c2.mono ?_
      rintro en w3 ⟨y2, s, rfl, oky, qy, hb3⟩
      have d3 := d2.grow hb3
      have be3 := be2.below hb3 be2.lt
      have hA : Below w3.heap.size w3 (w3.alloc (Obj.cells #[Value.slice y2.oa y2.os.length y2.ocap, Value.slice y2.ra y2.rs.length y2.rcap, Value.slice y2.wa y2.ws.length y2.wcap, Value.slice y2.da y2.ds.length y2.dcap] 27)) := (Below.refl _ _).alloc (Nat.le_refl _) _
      have d4 := d3.grow hA
      have be4 := be3.below hA be3.lt
      have qy4 := (qy.below hA (Nat.le_refl _)).base (C := B) (Nat.le_trans hB d2.dw.gb.size)
      have bx4 := Blk.new w3 [Value.slice y2.oa y2.os.length y2.ocap, Value.slice y2.ra y2.rs.length y2.rcap, Value.slice y2.wa y2.ws.length y2.wcap, Value.slice y2.da y2.ds.length y2.dcap] 27
      clear c2 d2 d3 be2 be3 qy hb3 hA hs2 b0 b1 b2 b3 x0 x1 x2 x3 x4 x5 x6
      go_upto_region 7 with fail
      generalize (w3.alloc (Obj.cells #[Value.slice y2.oa y2.os.length y2.ocap, Value.slice y2.ra y2.rs.length y2.rcap, Value.slice y2.wa y2.ws.length y2.wcap, Value.slice y2.da y2.ds.length y2.dcap] 27)) = W4 at *
      generalize w3.heap.size = xb at *
      obtain ⟨b0, b1, b2, b3⟩ := cells4'' d4.bh
      obtain ⟨f0, f1, f2, f3⟩ := free4 d4.bh
      obtain ⟨x0, x1, x2, x3⟩ := cells4'' bx4
      have d5 := d4.lay oky qy4
      have be5 := be4.other4 (R := w.heap.size) (by omega) (.slice y2.oa y2.os.length y2.ocap) (.slice y2.ra y2.rs.length y2.rcap) (.slice y2.wa y2.ws.length y2.wcap) (.slice y2.da y2.ds.length y2.dcap)
      clear d4 qy4 bx4 be4
      go_upto_region 8 with fail
      generalize ((((W4.setCell ⟨w.heap.size, 0, none⟩ (.slice y2.oa y2.os.length y2.ocap)).setCell ⟨w.heap.size, 1, none⟩ (.slice y2.ra y2.rs.length y2.rcap)).setCell ⟨w.heap.size, 2, none⟩ (.slice y2.wa y2.ws.length y2.wcap)).setCell ⟨w.heap.size, 3, none⟩ (.slice y2.da y2.ds.length y2.dcap)) = W5 at *
      clear b0 b1 b2 b3 f0 f1 f2 f3 x0 x1 x2 x3
      have x0 := be5.cell 0
      have x1 := be5.cell 1
      have x2 := be5.cell 2
      have x3 := be5.cell 3
      have x4 := be5.cell 4
      have x5 := be5.cell 5
      have x6 := be5.cell 6
      simp only [List.getElem?_cons_zero, List.getElem?_cons_succ] at x0 x1 x2 x3 x4 x5 x6
      have hA : Below W5.heap.size W5 (W5.alloc (Obj.cells #[Value.int .i64 e.k, Value.int .i64 e.to, Value.int .i64 e.fr, Value.int .i64 e.pt, Value.int .i64 e.o.k, Value.string e.o.t, Value.slice e.o.ra e.o.r.length e.o.rcap] 118)) := (Below.refl _ _).alloc (Nat.le_refl _) _
      have d6 := d5.grow hA
      obtain ⟨xs, hrow⟩ := d6.row
      have hnews := World.news_of_block (cs := #[Value.int .i64 e.k, Value.int .i64 e.to, Value.int .i64 e.fr, Value.int .i64 e.pt, Value.int .i64 e.o.k, Value.string e.o.t, Value.slice e.o.ra e.o.r.length e.o.rcap]) (heap_alloc_new W5 (Obj.cells #[Value.int .i64 e.k, Value.int .i64 e.to, Value.int .i64 e.fr, Value.int .i64 e.pt, Value.int .i64 e.o.k, Value.string e.o.t, Value.slice e.o.ra e.o.r.length e.o.rcap] 118))
      have hone : ∀ u ∈ [Value.int .i64 e.k, Value.int .i64 e.to, Value.int .i64 e.fr, Value.int .i64 e.pt, Value.int .i64 e.o.k, Value.string e.o.t, Value.slice e.o.ra e.o.r.length e.o.rcap], u.oneCell' = true := fun u hu => by
        simp at hu
        rcases hu with rfl | rfl | rfl | rfl | rfl | rfl | rfl <;> rfl
      have hs6 := d6.dw.gb.size
      clear d5 be5 hA
      go_wp2_with (at_builtin; refine wpList_append_own_at _ rfl _ _ 109 rfl w.heap.size 118 i0 _ 7 80 Try.underlying109 hi0 hz0 hz1 hz2 rfl (by decide) _ n xs rfl hrow ⟨W5.heap.size, 0, none⟩ 1 1 [Value.int .i64 e.k, Value.int .i64 e.to, Value.int .i64 e.fr, Value.int .i64 e.pt, Value.int .i64 e.o.k, Value.string e.o.t, Value.slice e.o.ra e.o.r.length e.o.rcap] rfl rfl hnews hone ?c3 ?c4 hs6 ?_)
      case c3 => unfold maxLen; omega
      case c4 => omega
      intro v' w7 hown7 hgr _ _
      have d7 := d6.more hrow hgr hown7
      clear d6 hrow hgr hown7 x0 x1 x2 x3 x4 x5 x6 hnews hone
      go_wp2
      go_roundw
      case rel => exact ⟨j - 1, n + 1, y2, k'', by go_num, by omega, by omega, d7⟩
      case measure => simp [intOf]; omega
    · have hj0 : j = 0 := by omega
      subst hj0
      obtain ⟨kq, bq⟩ := put4 d.br (.slice y.oa y.os.length y.ocap) (.slice y.ra y.rs.length y.rcap) (.slice y.wa y.ws.length y.wcap) (.slice y.da y.ds.length y.dcap)
      have dq := d.dw.sets4 (R := w.heap.size + 1) (by omega) (.slice y.oa y.os.length y.ocap) (.slice y.ra y.rs.length y.rcap) (.slice y.wa y.ws.length y.wcap) (.slice y.da y.ds.length y.dcap)
      have oq := d.q.keep kq
      obtain ⟨r0, r1, r2, r3⟩ := cells4'' d.br
      obtain ⟨f0, f1, f2, f3⟩ := free4 d.br
      obtain ⟨z0, z1, z2, z3⟩ := cells4'' bq
      have oky := d.ok
      clear kq bq d
      go_wp2
      refine bodyPost_ret (v := .tuple #[y.v, u10]) ?_ rfl ⟨y, u10, k', rfl, oky, oq, dq, by omega⟩
      simp [results, Try.results78, go_sem, z0, z1, z2, z3, Hp.v]

set_option maxHeartbeats 800000 in
set_option maxRecDepth 100000 in
theorem l5Heap_any (g : Nat) (cd : Cd) (k : Int) (w : World) (hc : CdOk cd) (hr : Rd w g cd k) (hk : k + 2000 < 900000) :
    Calls Try.prog 57 #[.pointer (some ⟨g, 0, none⟩)] w fun en w' => ∃ (y : Hp) (k' : Int), en = .returned y.v ∧ OkC y ∧ OwnQ w' w.heap.size y ∧ Dw w g cd k' w' ∧ k' ≤ k + 1000 := by
  have hA : Below w.heap.size w (w.alloc (Obj.cells #[Value.slice none 0 0, Value.slice none 0 0, Value.slice none 0 0, Value.slice none 0 0] 27)) := (Below.refl _ _).alloc (Nat.le_refl _) _
  have d0 := (Dw.start hr).grow hA
  have br0 := Blk.new w [Value.slice none 0 0, Value.slice none 0 0, Value.slice none 0 0, Value.slice none 0 0] 27
  have hs0 := hA.size
  go_enter Try.func57, Try.ntmps57
  go_upto_region 1 with fail
  generalize (w.alloc (Obj.cells #[Value.slice none 0 0, Value.slice none 0 0, Value.slice none 0 0, Value.slice none 0 0] 27)) = W0 at *
  clear hA
  have c1 := l5Base_any g cd k W0 hc d0.rd (by omega)
  go_wp2_with fail
  refine c1.mono ?_
  rintro en w1 ⟨y, rfl, oky, qy, dy⟩
  have d1 := d0.call dy
  have hg := d0.gw
  have br1 := dy.blk br0 (by omega)
  have c2 := l5Events_any y false g cd (k + 1) W0.heap.size 40 w1 hc d1.rd (by omega) (by omega) oky qy (by omega) dy.gb.size
  clear c1 d0 br0 dy qy oky
  simp only [Hp.v] at c2 ⊢
  go_wp2_with fail
  refine c2.mono ?_
  rintro en w2 ⟨y2, v2, k', rfl, ok2, q2, dy2, hk'⟩
  have d2 := d1.call dy2
  have br2 := dy2.blk br1 (by omega)
  have hA : Below w2.heap.size w2 (w2.alloc (Obj.cells #[Value.slice y2.oa y2.os.length y2.ocap, Value.slice y2.ra y2.rs.length y2.rcap, Value.slice y2.wa y2.ws.length y2.wcap, Value.slice y2.da y2.ds.length y2.dcap] 27)) := (Below.refl _ _).alloc (Nat.le_refl _) _
  have d3 := d2.grow hA
  have br3 := br2.below hA br2.lt
  have q3 := (q2.below hA (Nat.le_refl _)).base (C := w.heap.size) hs0
  have bx3 := Blk.new w2 [Value.slice y2.oa y2.os.length y2.ocap, Value.slice y2.ra y2.rs.length y2.rcap, Value.slice y2.wa y2.ws.length y2.wcap, Value.slice y2.da y2.ds.length y2.dcap] 27
  clear c2 d1 d2 br1 br2 dy2 q2 hA
  go_upto_region 2 with fail
  generalize (w2.alloc (Obj.cells #[Value.slice y2.oa y2.os.length y2.ocap, Value.slice y2.ra y2.rs.length y2.rcap, Value.slice y2.wa y2.ws.length y2.wcap, Value.slice y2.da y2.ds.length y2.dcap] 27)) = W3 at *
  generalize w2.heap.size = xb at *
  obtain ⟨x0, x1, x2, x3⟩ := cells4'' bx3
  obtain ⟨r0, r1, r2, r3⟩ := cells4'' br3
  obtain ⟨f0, f1, f2, f3⟩ := free4 br3
  obtain ⟨kq, bq⟩ := put4 br3 (.slice y2.oa y2.os.length y2.ocap) (.slice y2.ra y2.rs.length y2.rcap) (.slice y2.wa y2.ws.length y2.wcap) (.slice y2.da y2.ds.length y2.dcap)
  have dq := d3.sets4 (R := w.heap.size) (Nat.le_refl _) (.slice y2.oa y2.os.length y2.ocap) (.slice y2.ra y2.rs.length y2.rcap) (.slice y2.wa y2.ws.length y2.wcap) (.slice y2.da y2.ds.length y2.dcap)
  have oq := q3.keep kq
  obtain ⟨z0, z1, z2, z3⟩ := cells4'' bq
  clear kq bq d3 q3 bx3 br3
  go_wp2
  refine bodyPost_ret (v := y2.v) ?_ rfl ⟨y2, k', rfl, ok2, oq, dq, by omega⟩
  simp [results, Try.results57, go_sem, z0, z1, z2, z3, Hp.v]
end Go.Proofs.Ytcpnkpogebjieaa

namespace Go.Proofs.Ytcpnkpogebjieaa
open Go.RowKit

/-- One cell of a row that the call owns is written. -/
theorem row_set {w : World} {base e size g n c : Nat} {xs : List Value} (h : w.ownsRow base e size (.slice (some ⟨g, 0, none⟩) n c) n xs) (k : Nat) (v : Value) : (w.setCell ⟨g, k, none⟩ v).ownsRow base e size (.slice (some ⟨g, 0, none⟩) n c) n (xs.set k v) := by
  rcases h.2 with ⟨h1, _⟩ | ⟨g', cap, cur, h1, hg, hh, hl, hm, hs, ht⟩
  · simp at h1
  · simp only [Value.slice.injEq, Option.some.injEq, Addr.mk.injEq, and_true, true_and] at h1
    obtain ⟨rfl, rfl⟩ := h1
    refine ⟨by simpa using h.1, Or.inr ⟨g, c, (cur.toList.set k v).toArray, by simp, hg, ?_, hl, hm, by simpa using hs, ?_⟩⟩
    · have hb : Blk w g cur.toList e := by unfold Blk; simpa using hh
      have := hb.store k v
      unfold Blk at this
      exact this
    · rw [List.toList_toArray, List.take_set, ht]
theorem flat_set {os : List Ob} {i j : Nat} (hi : i < os.length) (hj : j < 3) {o : Ob} {v : Value} (ho : o.cs = os[i].cs.set j v) : (os.set i o).flatMap Ob.cs = (os.flatMap Ob.cs).set (i * 3 + j) v := by
  have hlen : ∀ o : Ob, o.cs.length = 3 := fun _ => rfl
  induction os generalizing i with
  | nil => simp at hi
  | cons a os ih =>
    cases i with
    | zero =>
      simp only [List.set_cons_zero, List.flatMap_cons, Nat.zero_mul, Nat.zero_add]
      simp only [List.getElem_cons_zero] at ho
      rw [ho, List.set_append_left _ _ (by rw [hlen]; exact hj)]
    | succ i =>
      simp only [List.set_cons_succ, List.flatMap_cons]
      simp only [List.getElem_cons_succ] at ho
      rw [ih (by simpa using hi) ho, List.set_append_right _ _ (by rw [hlen]; omega), hlen]
      congr 2
      omega
/-- The roots grow. -/
theorem OwnQ.growR {W W' : World} {B : Nat} {h : Hp} (hq : OwnQ W B h) {a : Option Addr} {cap : Nat} {rs : List Int} (hg : W.grownBy W' (Value.slice h.ra h.rs.length h.rcap).ownBlock) (hown : OwnL W' B (.slice a rs.length cap) rs) (hat : (Value.slice a rs.length cap).ownBlock = (Value.slice h.ra h.rs.length h.rcap).ownBlock ∨ (Value.slice a rs.length cap).ownBlock = some W.heap.size) : OwnQ W' B { h with ra := a, rcap := cap, rs := rs } :=
  ⟨row_kept hq.ob hq.ro hg (by decide), fun i hi => row_apart (hq.rs i hi) hg (hq.rro i hi), hq.rne, hown, fun i hi => apart_at (hq.rs i hi) (hq.rro i hi) hat, row_kept hq.wa hq.ro hg (by decide), row_kept hq.da hq.ro hg (by decide), hq.wne⟩
theorem row_ne_set {W : World} {base e size n base' e' size' n' g k : Nat} {v u : Value} {xs xs' : List Value} {c m : Nat} (h : W.ownsRow base e size v n xs) (h' : W.ownsRow base' e' size' (.slice (some ⟨g, 0, none⟩) m c) n' xs') (he : e ≠ e') : (W.setCell ⟨g, k, none⟩ u).ownsRow base e size v n xs := by
  refine ownsRow_setCell_other h (fun e1 => ?_) _
  obtain ⟨c1, q1⟩ := row_ty h e1
  obtain ⟨c2, q2⟩ := row_ty h' rfl
  rw [q1] at q2
  simp at q2
  exact he q2.2
/-- One cell of one object is written, its parts as they were. -/
theorem OwnQ.setOb {W : World} {B : Nat} {h : Hp} (hq : OwnQ W B h) {g i j : Nat} (hoa : h.oa = some ⟨g, 0, none⟩) (hi : i < h.os.length) (hj : j < 3) {o : Ob} {v : Value} (ho : o.cs = h.os[i].cs.set j v) (hrv : o.rv = h.os[i].rv) (hr : o.r = h.os[i].r) : OwnQ (W.setCell ⟨g, i * 3 + j, none⟩ v) B { h with os := h.os.set i o } := by
  have hob : OwnB W B (.slice (some ⟨g, 0, none⟩) h.os.length h.ocap) h.os := by rw [← hoa]; exact hq.ob
  have hrvs : ∀ l (hl : l < (h.os.set i o).length), (h.os.set i o)[l].rv = (h.os[l]'(by simpa using hl)).rv ∧ (h.os.set i o)[l].r = (h.os[l]'(by simpa using hl)).r := fun l hl => by
    rw [List.getElem_set]
    split
    · rename_i e; subst e; exact ⟨hrv, hr⟩
    · exact ⟨rfl, rfl⟩
  refine ⟨?_, fun l hl => ?_, fun l m hl hm hlm => ?_, row_ne_set hq.ro hob (by decide), fun l hl => ?_, row_ne_set hq.wa hob (by decide), row_ne_set hq.da hob (by decide), hq.wne⟩
  · have := row_set hob (i * 3 + j) v
    unfold OwnB
    simp only [flat_set hi hj ho, List.length_set, hoa]
    exact this
  · have hl' : l < h.os.length := by simpa using hl
    simp only [hrvs l hl]
    exact row_ne_set (hq.rs l hl') hob (by decide)
  · simp only [hrvs l hl, hrvs m hm]
    exact hq.rne l m (by simpa using hl) (by simpa using hm) hlm
  · simp only [hrvs l hl]
    exact hq.rro l (by simpa using hl)
/-- One object's parts grow, and are written back. -/
theorem OwnQ.growP {W W' : World} {B : Nat} {h : Hp} (hq : OwnQ W B h) {g i : Nat} (hoa : h.oa = some ⟨g, 0, none⟩) (hi : i < h.os.length) {a : Option Addr} {cap : Nat} {r : List Int} (hg : W.grownBy W' h.os[i].rv.ownBlock) (hown : OwnL W' B (.slice a r.length cap) r) (hat : (Value.slice a r.length cap).ownBlock = h.os[i].rv.ownBlock ∨ (Value.slice a r.length cap).ownBlock = some W.heap.size) :
    OwnQ (W'.setCell ⟨g, i * 3 + 2, none⟩ (.slice a r.length cap)) B { h with os := h.os.set i { h.os[i] with ra := a, rcap := cap, r := r } } := by
  have hob : OwnB W B (.slice (some ⟨g, 0, none⟩) h.os.length h.ocap) h.os := by rw [← hoa]; exact hq.ob
  have hob' : OwnB W' B (.slice (some ⟨g, 0, none⟩) h.os.length h.ocap) h.os := row_kept hob (hq.rs i hi) hg (by decide)
  have ho : ({ h.os[i] with ra := a, rcap := cap, r := r } : Ob).cs = h.os[i].cs.set 2 (.slice a r.length cap) := rfl
  have hrow : ∀ l (hl : l < h.os.length), l ≠ i → OwnL W' B h.os[l].rv h.os[l].r := fun l hl e => row_apart (hq.rs l hl) hg (hq.rne l i hl hi e)
  have hap : ∀ l (hl : l < h.os.length), l ≠ i → Apart h.os[l].rv (.slice a r.length cap) := fun l hl e => apart_at (hq.rs l hl) (hq.rne l i hl hi e) hat
  have hro : OwnL W' B (.slice h.ra h.rs.length h.rcap) h.rs := row_apart hq.ro hg (hq.rro i hi).symm
  have hwa : OwnW W' B (.slice h.wa h.ws.length h.wcap) h.ws := row_kept hq.wa (hq.rs i hi) hg (by decide)
  have hda : OwnW W' B (.slice h.da h.ds.length h.dcap) h.ds := row_kept hq.da (hq.rs i hi) hg (by decide)
  refine ⟨?_, fun l hl => ?_, fun l m hl hm hlm => ?_, row_ne_set hro hob' (by decide), fun l hl => ?_, row_ne_set hwa hob' (by decide), row_ne_set hda hob' (by decide), hq.wne⟩
  · have := row_set hob' (i * 3 + 2) (.slice a r.length cap)
    unfold OwnB
    simp only [flat_set hi (by omega : 2 < 3) ho, List.length_set, hoa]
    exact this
  · have hl' : l < h.os.length := by simpa using hl
    simp only [List.getElem_set]
    by_cases e : i = l
    · subst e
      simp only [if_true]
      exact row_ne_set hown hob' (by decide)
    · simp only [if_neg e]
      exact row_ne_set (hrow l hl' (Ne.symm e)) hob' (by decide)
  · have hl' : l < h.os.length := by simpa using hl
    have hm' : m < h.os.length := by simpa using hm
    simp only [List.getElem_set]
    by_cases e : i = l
    · subst e
      rw [if_pos rfl, if_neg hlm]
      exact (hap m hm' (Ne.symm hlm)).symm
    · rw [if_neg e]
      by_cases e2 : i = m
      · subst e2
        rw [if_pos rfl]
        exact hap l hl' (Ne.symm e)
      · rw [if_neg e2]
        exact hq.rne l m hl' hm' hlm
  · have hl' : l < h.os.length := by simpa using hl
    simp only [List.getElem_set]
    by_cases e : i = l
    · subst e
      rw [if_pos rfl]
      exact (apart_at hq.ro (hq.rro i hi).symm hat).symm
    · rw [if_neg e]
      exact hq.rro l hl'
/-- A heap that is at most so large. -/
structure Sm (h : Hp) : Prop where
  o : h.os.length ≤ 100
  oo : ∀ i (hi : i < h.os.length), h.os[i].r.length ≤ 100 ∧ h.os[i].t.size ≤ 100
  r : h.rs.length ≤ 100
  w : h.ws.length ≤ 100
  d : h.ds.length ≤ 100
theorem Sm.fit {h : Hp} {W : World} {B : Nat} (s : Sm h) (hq : OwnQ W B h) : Fit W h :=
  ⟨hq.isIn, ⟨by have := s.o; omega, fun i hi => by have := (s.oo i hi).1; omega, by have := s.r; omega, by have := s.w; omega, by have := s.d; omega⟩, fun i hi => by have := (s.oo i hi).2; unfold maxLen; omega, hq.cap⟩
theorem OkC.sm {h : Hp} (c : OkC h) : Sm h := ⟨by have := c.n60; omega, fun i hi => by have := c.kind i hi; omega, by have := c.r8; omega, by have := c.w20; omega, by have := c.w20; omega⟩
theorem Sm.set {h : Hp} (s : Sm h) {i : Nat} (hi : i < h.os.length) {o : Ob} (ho : o.r.length ≤ 100 ∧ o.t.size ≤ 100) : Sm { h with os := h.os.set i o } := by
  have := hi
  refine ⟨by simpa using s.o, fun l hl => ?_, s.r, s.w, s.d⟩
  have hl' : l < h.os.length := by simpa using hl
  simp only [List.getElem_set]
  split
  · exact ho
  · exact s.oo l hl'
theorem Sm.more {h : Hp} (s : Sm h) (hn : h.os.length < 100) {o : Ob} (ho : o.r.length ≤ 100 ∧ o.t.size ≤ 100) (a : Option Addr) (c : Nat) : Sm { h with oa := a, ocap := c, os := h.os ++ [o] } := by
  refine ⟨by simp; omega, fun l hl => ?_, s.r, s.w, s.d⟩
  simp only at hl ⊢
  by_cases e : l < h.os.length
  · rw [List.getElem_append_left e]; exact s.oo l e
  · have e' : l = h.os.length := by simp at hl; omega
    subst e'
    simp only [List.getElem_append_right (Nat.le_refl _), Nat.sub_self, List.getElem_cons_zero]
    exact ho
end Go.Proofs.Ytcpnkpogebjieaa
