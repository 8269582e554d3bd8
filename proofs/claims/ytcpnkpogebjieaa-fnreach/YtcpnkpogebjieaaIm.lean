/- The program's own MemSame, whole. (Written by program: wip/tools/mkim.py.) -/
import Derived.Test.YtcpnkpogebjieaaLo
import Derived.Deep.Cut
namespace Go.Proofs.Ytcpnkpogebjieaa
open Go.RowKit

/-- A heap in rows of its own. -/
def OwnX (w : World) (h : Hp) : Prop := ∃ B, OwnP w B h
theorem OwnX.step {w w' : World} {h : Hp} (hh : OwnX w h) (hb : Below w.heap.size w w') : OwnX w' h := by
  obtain ⟨B, q⟩ := hh
  exact ⟨B, q.below hb (Nat.le_refl _)⟩
theorem OwnX.keep {w w' : World} {h : Hp} (hh : OwnX w h) (hk : KeepT 27 w w') : OwnX w' h := by
  obtain ⟨B, q⟩ := hh
  exact ⟨B, q.keep hk⟩
theorem Blk.step {w w' : World} {B t : Nat} {cs : List Value} (h : Blk w B cs t) (hb : Below w.heap.size w w') : Blk w' B cs t := h.below hb h.lt
theorem free4 {w : World} {B t : Nat} {cs : List Value} (h : Blk w B cs t) : w.frozen? ⟨B, 0, none⟩ = false ∧ w.frozen? ⟨B, 1, none⟩ = false ∧ w.frozen? ⟨B, 2, none⟩ = false ∧ w.frozen? ⟨B, 3, none⟩ = false := ⟨h.free 0, h.free 1, h.free 2, h.free 3⟩
/-- The two boxes' cells. -/
abbrev SC (w : World) (a b : Hp) (W : World) : Prop :=
    (W.cell? ⟨w.heap.size, 0, none⟩ = some (.slice a.oa a.os.length a.ocap) ∧ W.cell? ⟨w.heap.size, 1, none⟩ = some (.slice a.ra a.rs.length a.rcap) ∧ W.cell? ⟨w.heap.size, 2, none⟩ = some (.slice a.wa a.ws.length a.wcap) ∧ W.cell? ⟨w.heap.size, 3, none⟩ = some (.slice a.da a.ds.length a.dcap)) ∧
    (W.cell? ⟨w.heap.size + 1, 0, none⟩ = some (.slice b.oa b.os.length b.ocap) ∧ W.cell? ⟨w.heap.size + 1, 1, none⟩ = some (.slice b.ra b.rs.length b.rcap) ∧ W.cell? ⟨w.heap.size + 1, 2, none⟩ = some (.slice b.wa b.ws.length b.wcap) ∧ W.cell? ⟨w.heap.size + 1, 3, none⟩ = some (.slice b.da b.ds.length b.dcap))
theorem store_one {w W : World} {a b x y : Hp} {B C D : Nat} {c0 c1 c2 c3 d0 d1 d2 d3 : Value} (hB : Blk W B [c0, c1, c2, c3] 27) (hC : Blk W C [d0, d1, d2, d3] 27) (hne : B ≠ C) (hK : K2 w W a b) (hD : D ≤ B) (hx : OwnX W x) (hy : OwnX W y) (hw : w.heap.size + 1 + 1 ≤ D) (v0 v1 v2 v3 : Value) :
    ∃ _ : True, KeepT 27 W ((((W.setCell ⟨B, 0, none⟩ v0).setCell ⟨B, 1, none⟩ v1).setCell ⟨B, 2, none⟩ v2).setCell ⟨B, 3, none⟩ v3) ∧ Blk ((((W.setCell ⟨B, 0, none⟩ v0).setCell ⟨B, 1, none⟩ v1).setCell ⟨B, 2, none⟩ v2).setCell ⟨B, 3, none⟩ v3) C [d0, d1, d2, d3] 27 ∧
      Blk ((((W.setCell ⟨B, 0, none⟩ v0).setCell ⟨B, 1, none⟩ v1).setCell ⟨B, 2, none⟩ v2).setCell ⟨B, 3, none⟩ v3) B [v0, v1, v2, v3] 27 ∧ K2 w ((((W.setCell ⟨B, 0, none⟩ v0).setCell ⟨B, 1, none⟩ v1).setCell ⟨B, 2, none⟩ v2).setCell ⟨B, 3, none⟩ v3) a b ∧
      OwnX ((((W.setCell ⟨B, 0, none⟩ v0).setCell ⟨B, 1, none⟩ v1).setCell ⟨B, 2, none⟩ v2).setCell ⟨B, 3, none⟩ v3) x ∧ OwnX ((((W.setCell ⟨B, 0, none⟩ v0).setCell ⟨B, 1, none⟩ v1).setCell ⟨B, 2, none⟩ v2).setCell ⟨B, 3, none⟩ v3) y := by
  obtain ⟨hk, hb⟩ := put4 hB v0 v1 v2 v3
  have o4 : ∀ (E t : Nat) (cs : List Value), Blk W E cs t → E ≠ B → Blk ((((W.setCell ⟨B, 0, none⟩ v0).setCell ⟨B, 1, none⟩ v1).setCell ⟨B, 2, none⟩ v2).setCell ⟨B, 3, none⟩ v3) E cs t := fun E t cs h e => (((h.other ⟨B, 0, none⟩ v0 e).other ⟨B, 1, none⟩ v1 e).other ⟨B, 2, none⟩ v2 e).other ⟨B, 3, none⟩ v3 e
  exact ⟨trivial, hk, o4 C _ _ hC hne.symm, hb, ⟨below4 hK.below (by omega) v0 v1 v2 v3, o4 _ _ _ hK.ba (by omega), o4 _ _ _ hK.bb (by omega)⟩, hx.keep hk, hy.keep hk⟩
/-- Where the ways of the region meet. -/
structure Meet (w W : World) (a b x y : Hp) (B C : Nat) : Prop where
  px : x.p = ((lookP a.p).o, (lookP a.p).r, (lookP a.p).w, (lookP a.p).d)
  py : y.p = ((lookP b.p).o, (lookP b.p).r, (lookP b.p).w, (lookP b.p).d)
  bx : Blk W B [Value.slice x.oa x.os.length x.ocap, Value.slice x.ra x.rs.length x.rcap, Value.slice x.wa x.ws.length x.wcap, Value.slice x.da x.ds.length x.dcap] 27
  by_ : Blk W C [Value.slice y.oa y.os.length y.ocap, Value.slice y.ra y.rs.length y.rcap, Value.slice y.wa y.ws.length y.wcap, Value.slice y.da y.ds.length y.dcap] 27
  ox : OwnX W x
  oy : OwnX W y
  be : Below w.heap.size w W

theorem same_xy {a b x y : Hp} (ha : okP a.p = true) (hb : okP b.p = true) (hx : x.p = ((lookP a.p).o, (lookP a.p).r, (lookP a.p).w, (lookP a.p).d)) (hy : y.p = ((lookP b.p).o, (lookP b.p).r, (lookP b.p).w, (lookP b.p).d)) :
    SameP a.p b.p ↔ x.rs = y.rs ∧ x.os.map Ob.p = y.os.map Ob.p ∧ x.ws = y.ws ∧ x.ds = y.ds := by
  unfold SameP
  generalize lookP a.p = u at *
  generalize lookP b.p = v at *
  obtain ⟨uo, ur, uw, ud⟩ := u
  obtain ⟨vo, vr, vw, vd⟩ := v
  simp only [Hp.p, Prod.mk.injEq] at hx hy
  obtain ⟨x1, x2, x3, x4⟩ := hx
  obtain ⟨y1, y2, y3, y4⟩ := hy
  simp only [Look.mk.injEq, x1, x2, x3, x4, y1, y2, y3, y4, ha, hb, true_and]
  constructor
  · rintro ⟨h1, h2, h3, h4⟩
    exact ⟨h2, h1, h3, h4⟩
  · rintro ⟨h1, h2, h3, h4⟩
    exact ⟨h2, h1, h3, h4⟩
theorem own_lens {w : World} {B : Nat} {h : Hp} (hh : OwnP w B h) : h.rs.length ≤ maxLen ∧ h.ws.length ≤ maxLen ∧ h.ds.length ≤ maxLen ∧ ∀ i (hi : i < h.os.length), h.os[i].r.length ≤ maxLen := by
  obtain ⟨_, _, _, _, a1, a2⟩ := hh.ro.form
  obtain ⟨_, _, _, _, b1, b2⟩ := hh.wa.form
  obtain ⟨_, _, _, _, c1, c2⟩ := hh.da.form
  refine ⟨by omega, by omega, by omega, fun i hi => ?_⟩
  obtain ⟨_, _, _, _, d1, d2⟩ := (hh.rs.own i hi).form
  omega

set_option maxHeartbeats 6400000 in
set_option maxRecDepth 100000 in
theorem implMemSame_any (a b : Hp) (w : World) (ha : Fit w a) (hb : Fit w b) :
    Calls Try.prog 23 #[a.v, b.v] w fun e w' => ∃ r : Bool, e = .returned (.bool r) ∧ (r = true ↔ SameP a.p b.p) ∧ Below w.heap.size w w' := by
  have hK := K2.start w a b
  have c1 := implMemOk_any a _ (ha.isIn.below hK.below (Nat.le_refl _)) ha.small ha.txt
  go_enter Try.func23, Try.ntmps23
  simp only [Hp.v] at c1 ⊢
  go_wp2_with fail
  refine c1.mono ?_
  rintro e w1 ⟨rfl, hb1⟩
  have hK1 := hK.step hb1
  clear c1 hb1 hK
  cases hoka : okP a.p with
  | false =>
    have HF : Hid (¬ SameP a.p b.p) := fun h => by have := h.1; rw [hoka] at this; simp at this
    clear hoka
    have hlt := hK1.bb.lt
    go_wp2
    go_ret
    exact ⟨_, rfl, by simp [HF.out], hK1.below⟩
  | true =>
    have HA : Hid (okP a.p = true) := hoka
    clear hoka
    have c2 := implMemOk_any b _ (hb.isIn.below hK1.below (Nat.le_refl _)) hb.small hb.txt
    simp only [Hp.v] at c2
    obtain ⟨⟨a0, a1, a2, a3⟩, b0, b1, b2, b3⟩ := hK1.cells
    go_wp2_with fail
    refine c2.mono ?_
    rintro e w2 ⟨rfl, hb2⟩
    have hK2 := hK1.step hb2
    clear c2 hb2 hK1 a0 a1 a2 a3 b0 b1 b2 b3
    obtain ⟨⟨a0, a1, a2, a3⟩, b0, b1, b2, b3⟩ := hK2.cells
    cases hokb : okP b.p with
    | false =>
      have HF : Hid (¬ SameP a.p b.p) := fun h => by have := h.2.1; rw [hokb] at this; simp at this
      clear hokb
      go_wp2
      go_ret
      exact ⟨_, rfl, by simp [HF.out], hK2.below⟩
    | true =>
      have HB : Hid (okP b.p = true) := hokb
      clear hokb
      have hdr : Below w2.heap.size w2 w2.drew := (Below.refl _ _).drew
      have hK2d := hK2.step hdr
      have hw2s : w.heap.size + 1 + 1 ≤ w2.drew.heap.size := hK2d.bb.lt
      clear hdr hK2 a0 a1 a2 a3 b0 b1 b2 b3
      go_wp2_with fail
      go_cut [5, 6] from 15 (fun s5 s6 wx => ∃ (B C : Nat) (x y : Hp), s5 = .pointer (some ⟨B, 0, none⟩) ∧ s6 = .pointer (some ⟨C, 0, none⟩) ∧ Meet w wx a b x y B C)
      case first =>
        refine wp_region_held_drew (S := SC w a b) (by kernel_rfl) hK2d.cells (fun hHeld => ?_)
        have hS : SC w a b w2.drew := hK2d.cells
        generalize hW0 : w2.drew = W0 at hK2d hS hw2s ⊢
        clear hW0 hHeld
        refine take_if (i := 0) (v := ?_) 15 rfl rfl (by kernel_rfl) (by kernel_rfl) (by kernel_rfl) (fun _ _ _ h => h) (Or.inl ⟨by rfl, ?_⟩) hS ?_
        rotate_left
        · intro W hSw
          try dsimp only at hSw
          go_simp
          try with_reducible rfl
        simp only [List.setIfInBounds_toArray, List.set_cons_zero, List.set_cons_succ]
        refine take_if (i := 2) (v := ?_) 17 rfl rfl (by kernel_rfl) (by kernel_rfl) (by kernel_rfl) (fun _ _ _ h => h) (Or.inl ⟨by rfl, ?_⟩) hS ?_
        rotate_left
        · intro W hSw
          try dsimp only at hSw
          go_simp
          try with_reducible rfl
        simp only [List.setIfInBounds_toArray, List.set_cons_zero, List.set_cons_succ]
        refine wpAnyH_ready (rs := [1, 4, 5]) (by kernel_rfl) (by simp) ?_
        refine AllReadyH.cons (o := _) rfl (fun K hK => ?ca0) (AllReadyH.cons (o := _) rfl (fun K hK => ?al0) (AllReadyH.cons (o := _) rfl (fun K hK => ?am0) AllReadyH.nil))
        case ca0 =>
          have c := lookOf_any a (W0) (ha.below hK2d.below (Nat.le_refl _)) HA.out
          simp only [Hp.v] at c
          go_simp
          refine c.mono ?_
          rintro e V1 ⟨x, rfl, hpx, hox, hb1⟩
          have HPX : Hid (x.p = ((lookP a.p).o, (lookP a.p).r, (lookP a.p).w, (lookP a.p).d)) := hpx
          have ex1 : OwnX V1 x := ⟨_, hox⟩
          clear hpx hox c
          go_wp2_with fail
          have kk1 := hK2d.step hb1
          have sz1 : W0.heap.size ≤ V1.heap.size := Nat.le_trans (Nat.le_refl W0.heap.size) hb1.size
          refine hK.out _ _ kk1.cells (fun _ => ?_)
          clear hK K
          try simp only [Act.put, List.getElem_toArray, List.getElem_cons_zero, List.getElem_cons_succ, List.setIfInBounds_toArray, List.set_cons_zero, List.set_cons_succ]
          refine wpAnyH_ready (rs := [3, 4, 5]) (by kernel_rfl) (by simp) ?_
          refine AllReadyH.cons (o := _) rfl (fun K hK => ?cb2) (AllReadyH.cons (o := _) rfl (fun K hK => ?al2) (AllReadyH.cons (o := _) rfl (fun K hK => ?am2) AllReadyH.nil))
          case cb2 =>
            have c := lookOf_any b (V1) (hb.below kk1.below (Nat.le_refl _)) HB.out
            simp only [Hp.v] at c
            go_simp
            refine c.mono ?_
            rintro e V3 ⟨y, rfl, hpy, hoy, hb3⟩
            have HPY : Hid (y.p = ((lookP b.p).o, (lookP b.p).r, (lookP b.p).w, (lookP b.p).d)) := hpy
            have ex3 : OwnX V3 y := ⟨_, hoy⟩
            clear hpy hoy c
            go_wp2_with fail
            have kk3 := kk1.step hb3
            have sz3 : W0.heap.size ≤ V3.heap.size := Nat.le_trans sz1 hb3.size
            have hx_3 := OwnX.step ex1 hb3
            refine hK.out _ _ kk3.cells (fun _ => ?_)
            clear hK K
            try simp only [Act.put, List.getElem_toArray, List.getElem_cons_zero, List.getElem_cons_succ, List.setIfInBounds_toArray, List.set_cons_zero, List.set_cons_succ]
            refine wpAnyH_ready (rs := [4, 5]) (by kernel_rfl) (by simp) ?_
            refine AllReadyH.cons (o := _) rfl (fun K hK => ?al4) (AllReadyH.cons (o := _) rfl (fun K hK => ?am4) AllReadyH.nil)
            case al4 =>
              have hb5 : Below (V3).heap.size (V3) ((V3).alloc (Obj.cells #[Value.slice none 0 0, Value.slice none 0 0, Value.slice none 0 0, Value.slice none 0 0] 27)) := (Below.refl _ _).alloc (Nat.le_refl _) _
              have new5 := Blk.new (V3) [Value.slice none 0 0, Value.slice none 0 0, Value.slice none 0 0, Value.slice none 0 0] 27
              go_simp
              obtain ⟨V5, hW5⟩ : ∃ W, W = (V3).alloc (Obj.cells #[Value.slice none 0 0, Value.slice none 0 0, Value.slice none 0 0, Value.slice none 0 0] 27) := ⟨_, rfl⟩
              rw [← hW5] at hb5 ⊢
              replace new5 : Blk V5 (V3).heap.size [Value.slice none 0 0, Value.slice none 0 0, Value.slice none 0 0, Value.slice none 0 0] 27 := by rw [hW5]; exact new5
              clear hW5
              have kk5 := kk3.step hb5
              have sz5 : W0.heap.size ≤ V5.heap.size := Nat.le_trans sz3 hb5.size
              have hx_5 := OwnX.step hx_3 hb5
              have hy_5 := OwnX.step ex3 hb5
              refine hK.out _ _ kk5.cells (fun _ => ?_)
              clear hK K
              try simp only [Act.put, List.getElem_toArray, List.getElem_cons_zero, List.getElem_cons_succ, List.setIfInBounds_toArray, List.set_cons_zero, List.set_cons_succ]
              refine wpAnyH_ready (rs := [5]) (by kernel_rfl) (by simp) ?_
              refine AllReadyH.cons (o := _) rfl (fun K hK => ?am6) AllReadyH.nil
              case am6 =>
                have hb7 : Below (V5).heap.size (V5) ((V5).alloc (Obj.cells #[Value.slice none 0 0, Value.slice none 0 0, Value.slice none 0 0, Value.slice none 0 0] 27)) := (Below.refl _ _).alloc (Nat.le_refl _) _
                have new7 := Blk.new (V5) [Value.slice none 0 0, Value.slice none 0 0, Value.slice none 0 0, Value.slice none 0 0] 27
                go_simp
                obtain ⟨V7, hW7⟩ : ∃ W, W = (V5).alloc (Obj.cells #[Value.slice none 0 0, Value.slice none 0 0, Value.slice none 0 0, Value.slice none 0 0] 27) := ⟨_, rfl⟩
                rw [← hW7] at hb7 ⊢
                replace new7 : Blk V7 (V5).heap.size [Value.slice none 0 0, Value.slice none 0 0, Value.slice none 0 0, Value.slice none 0 0] 27 := by rw [hW7]; exact new7
                clear hW7
                have lt7 := new5.lt
                have kk7 := kk5.step hb7
                have sz7 : W0.heap.size ≤ V7.heap.size := Nat.le_trans sz5 hb7.size
                have hx_7 := OwnX.step hx_5 hb7
                have hy_7 := OwnX.step hy_5 hb7
                have h5_7 := Blk.step new5 hb7
                refine hK.out _ _ kk7.cells (fun _ => ?_)
                clear hK K
                try simp only [Act.put, List.getElem_toArray, List.getElem_cons_zero, List.getElem_cons_succ, List.setIfInBounds_toArray, List.set_cons_zero, List.set_cons_succ]
                obtain ⟨r0, r1, r2, r3⟩ := cells4'' h5_7
                obtain ⟨f0, f1, f2, f3⟩ := free4 h5_7
                have hne : (V3).heap.size ≠ (V5).heap.size := (Nat.ne_of_lt lt7)
                obtain ⟨bx, hkx, h6x, h5x, hKx, hxx, hyx⟩ := store_one h5_7 new7 hne kk7 (by exact sz3) hx_7 hy_7 hw2s (.slice x.oa x.os.length x.ocap) (.slice x.ra x.rs.length x.rcap) (.slice x.wa x.ws.length x.wcap) (.slice x.da x.ds.length x.dcap)
                refine wpAnyH_ready (rs := [6]) (by kernel_rfl) (by simp) ?_
                refine AllReadyH.cons (o := _) rfl (fun K hK => ?_) AllReadyH.nil
                go_simp
                refine hK.out _ _ hKx.cells (fun _ => ?_)
                clear hK K
                obtain ⟨WX, hWX⟩ : ∃ WX, WX = ((((V7.setCell ⟨(V3).heap.size, 0, none⟩ (.slice x.oa x.os.length x.ocap)).setCell ⟨(V3).heap.size, 1, none⟩ (.slice x.ra x.rs.length x.rcap)).setCell ⟨(V3).heap.size, 2, none⟩ (.slice x.wa x.ws.length x.wcap)).setCell ⟨(V3).heap.size, 3, none⟩ (.slice x.da x.ds.length x.dcap)) := ⟨_, rfl⟩
                rw [← hWX] at hKx h5x h6x hxx hyx ⊢
                clear hWX r0 r1 r2 r3 f0 f1 f2 f3 hkx
                obtain ⟨r0, r1, r2, r3⟩ := cells4'' h6x
                obtain ⟨f0, f1, f2, f3⟩ := free4 h6x
                obtain ⟨by_, hky, h5y, h6y, hKy, hxy, hyy⟩ := store_one h6x h5x hne.symm hKx (by exact sz5) hxx hyx hw2s (.slice y.oa y.os.length y.ocap) (.slice y.ra y.rs.length y.rcap) (.slice y.wa y.ws.length y.wcap) (.slice y.da y.ds.length y.dcap)
                refine wpAnyH_ready (rs := [7]) (by kernel_rfl) (by simp) ?_
                refine AllReadyH.cons (o := _) rfl (fun K hK => ?_) AllReadyH.nil
                go_simp
                refine hK.out _ _ hKy.cells (fun _ => ?_)
                clear hK K
                refine wpAnyH_done (by kernel_rfl) ?_ _
                go_wp2_with fail
                go_meet
                case rel => exact ⟨(V3).heap.size, (V5).heap.size, x, y, rfl, rfl, ⟨HPX, HPY, h5y, h6y, hxy, hyy, hKy.below⟩⟩
            case am4 =>
              have hb9 : Below (V3).heap.size (V3) ((V3).alloc (Obj.cells #[Value.slice none 0 0, Value.slice none 0 0, Value.slice none 0 0, Value.slice none 0 0] 27)) := (Below.refl _ _).alloc (Nat.le_refl _) _
              have new9 := Blk.new (V3) [Value.slice none 0 0, Value.slice none 0 0, Value.slice none 0 0, Value.slice none 0 0] 27
              go_simp
              obtain ⟨V9, hW9⟩ : ∃ W, W = (V3).alloc (Obj.cells #[Value.slice none 0 0, Value.slice none 0 0, Value.slice none 0 0, Value.slice none 0 0] 27) := ⟨_, rfl⟩
              rw [← hW9] at hb9 ⊢
              replace new9 : Blk V9 (V3).heap.size [Value.slice none 0 0, Value.slice none 0 0, Value.slice none 0 0, Value.slice none 0 0] 27 := by rw [hW9]; exact new9
              clear hW9
              have kk9 := kk3.step hb9
              have sz9 : W0.heap.size ≤ V9.heap.size := Nat.le_trans sz3 hb9.size
              have hx_9 := OwnX.step hx_3 hb9
              have hy_9 := OwnX.step ex3 hb9
              refine hK.out _ _ kk9.cells (fun _ => ?_)
              clear hK K
              try simp only [Act.put, List.getElem_toArray, List.getElem_cons_zero, List.getElem_cons_succ, List.setIfInBounds_toArray, List.set_cons_zero, List.set_cons_succ]
              refine wpAnyH_ready (rs := [4]) (by kernel_rfl) (by simp) ?_
              refine AllReadyH.cons (o := _) rfl (fun K hK => ?al10) AllReadyH.nil
              case al10 =>
                have hb11 : Below (V9).heap.size (V9) ((V9).alloc (Obj.cells #[Value.slice none 0 0, Value.slice none 0 0, Value.slice none 0 0, Value.slice none 0 0] 27)) := (Below.refl _ _).alloc (Nat.le_refl _) _
                have new11 := Blk.new (V9) [Value.slice none 0 0, Value.slice none 0 0, Value.slice none 0 0, Value.slice none 0 0] 27
                go_simp
                obtain ⟨V11, hW11⟩ : ∃ W, W = (V9).alloc (Obj.cells #[Value.slice none 0 0, Value.slice none 0 0, Value.slice none 0 0, Value.slice none 0 0] 27) := ⟨_, rfl⟩
                rw [← hW11] at hb11 ⊢
                replace new11 : Blk V11 (V9).heap.size [Value.slice none 0 0, Value.slice none 0 0, Value.slice none 0 0, Value.slice none 0 0] 27 := by rw [hW11]; exact new11
                clear hW11
                have lt11 := new9.lt
                have kk11 := kk9.step hb11
                have sz11 : W0.heap.size ≤ V11.heap.size := Nat.le_trans sz9 hb11.size
                have hx_11 := OwnX.step hx_9 hb11
                have hy_11 := OwnX.step hy_9 hb11
                have h6_11 := Blk.step new9 hb11
                refine hK.out _ _ kk11.cells (fun _ => ?_)
                clear hK K
                try simp only [Act.put, List.getElem_toArray, List.getElem_cons_zero, List.getElem_cons_succ, List.setIfInBounds_toArray, List.set_cons_zero, List.set_cons_succ]
                obtain ⟨r0, r1, r2, r3⟩ := cells4'' new11
                obtain ⟨f0, f1, f2, f3⟩ := free4 new11
                have hne : (V9).heap.size ≠ (V3).heap.size := (Nat.ne_of_gt lt11)
                obtain ⟨bx, hkx, h6x, h5x, hKx, hxx, hyx⟩ := store_one new11 h6_11 hne kk11 (by exact sz9) hx_11 hy_11 hw2s (.slice x.oa x.os.length x.ocap) (.slice x.ra x.rs.length x.rcap) (.slice x.wa x.ws.length x.wcap) (.slice x.da x.ds.length x.dcap)
                refine wpAnyH_ready (rs := [6]) (by kernel_rfl) (by simp) ?_
                refine AllReadyH.cons (o := _) rfl (fun K hK => ?_) AllReadyH.nil
                go_simp
                refine hK.out _ _ hKx.cells (fun _ => ?_)
                clear hK K
                obtain ⟨WX, hWX⟩ : ∃ WX, WX = ((((V11.setCell ⟨(V9).heap.size, 0, none⟩ (.slice x.oa x.os.length x.ocap)).setCell ⟨(V9).heap.size, 1, none⟩ (.slice x.ra x.rs.length x.rcap)).setCell ⟨(V9).heap.size, 2, none⟩ (.slice x.wa x.ws.length x.wcap)).setCell ⟨(V9).heap.size, 3, none⟩ (.slice x.da x.ds.length x.dcap)) := ⟨_, rfl⟩
                rw [← hWX] at hKx h5x h6x hxx hyx ⊢
                clear hWX r0 r1 r2 r3 f0 f1 f2 f3 hkx
                obtain ⟨r0, r1, r2, r3⟩ := cells4'' h6x
                obtain ⟨f0, f1, f2, f3⟩ := free4 h6x
                obtain ⟨by_, hky, h5y, h6y, hKy, hxy, hyy⟩ := store_one h6x h5x hne.symm hKx (by exact sz3) hxx hyx hw2s (.slice y.oa y.os.length y.ocap) (.slice y.ra y.rs.length y.rcap) (.slice y.wa y.ws.length y.wcap) (.slice y.da y.ds.length y.dcap)
                refine wpAnyH_ready (rs := [7]) (by kernel_rfl) (by simp) ?_
                refine AllReadyH.cons (o := _) rfl (fun K hK => ?_) AllReadyH.nil
                go_simp
                refine hK.out _ _ hKy.cells (fun _ => ?_)
                clear hK K
                refine wpAnyH_done (by kernel_rfl) ?_ _
                go_wp2_with fail
                go_meet
                case rel => exact ⟨(V9).heap.size, (V3).heap.size, x, y, rfl, rfl, ⟨HPX, HPY, h5y, h6y, hxy, hyy, hKy.below⟩⟩
          case al2 =>
            have hb13 : Below (V1).heap.size (V1) ((V1).alloc (Obj.cells #[Value.slice none 0 0, Value.slice none 0 0, Value.slice none 0 0, Value.slice none 0 0] 27)) := (Below.refl _ _).alloc (Nat.le_refl _) _
            have new13 := Blk.new (V1) [Value.slice none 0 0, Value.slice none 0 0, Value.slice none 0 0, Value.slice none 0 0] 27
            go_simp
            obtain ⟨V13, hW13⟩ : ∃ W, W = (V1).alloc (Obj.cells #[Value.slice none 0 0, Value.slice none 0 0, Value.slice none 0 0, Value.slice none 0 0] 27) := ⟨_, rfl⟩
            rw [← hW13] at hb13 ⊢
            replace new13 : Blk V13 (V1).heap.size [Value.slice none 0 0, Value.slice none 0 0, Value.slice none 0 0, Value.slice none 0 0] 27 := by rw [hW13]; exact new13
            clear hW13
            have kk13 := kk1.step hb13
            have sz13 : W0.heap.size ≤ V13.heap.size := Nat.le_trans sz1 hb13.size
            have hx_13 := OwnX.step ex1 hb13
            refine hK.out _ _ kk13.cells (fun _ => ?_)
            clear hK K
            try simp only [Act.put, List.getElem_toArray, List.getElem_cons_zero, List.getElem_cons_succ, List.setIfInBounds_toArray, List.set_cons_zero, List.set_cons_succ]
            refine wpAnyH_ready (rs := [3, 5]) (by kernel_rfl) (by simp) ?_
            refine AllReadyH.cons (o := _) rfl (fun K hK => ?cb14) (AllReadyH.cons (o := _) rfl (fun K hK => ?am14) AllReadyH.nil)
            case cb14 =>
              have c := lookOf_any b (V13) (hb.below kk13.below (Nat.le_refl _)) HB.out
              simp only [Hp.v] at c
              go_simp
              refine c.mono ?_
              rintro e V15 ⟨y, rfl, hpy, hoy, hb15⟩
              have HPY : Hid (y.p = ((lookP b.p).o, (lookP b.p).r, (lookP b.p).w, (lookP b.p).d)) := hpy
              have ex15 : OwnX V15 y := ⟨_, hoy⟩
              clear hpy hoy c
              go_wp2_with fail
              have kk15 := kk13.step hb15
              have sz15 : W0.heap.size ≤ V15.heap.size := Nat.le_trans sz13 hb15.size
              have hx_15 := OwnX.step hx_13 hb15
              have h5_15 := Blk.step new13 hb15
              refine hK.out _ _ kk15.cells (fun _ => ?_)
              clear hK K
              try simp only [Act.put, List.getElem_toArray, List.getElem_cons_zero, List.getElem_cons_succ, List.setIfInBounds_toArray, List.set_cons_zero, List.set_cons_succ]
              refine wpAnyH_ready (rs := [5]) (by kernel_rfl) (by simp) ?_
              refine AllReadyH.cons (o := _) rfl (fun K hK => ?am16) AllReadyH.nil
              case am16 =>
                have hb17 : Below (V15).heap.size (V15) ((V15).alloc (Obj.cells #[Value.slice none 0 0, Value.slice none 0 0, Value.slice none 0 0, Value.slice none 0 0] 27)) := (Below.refl _ _).alloc (Nat.le_refl _) _
                have new17 := Blk.new (V15) [Value.slice none 0 0, Value.slice none 0 0, Value.slice none 0 0, Value.slice none 0 0] 27
                go_simp
                obtain ⟨V17, hW17⟩ : ∃ W, W = (V15).alloc (Obj.cells #[Value.slice none 0 0, Value.slice none 0 0, Value.slice none 0 0, Value.slice none 0 0] 27) := ⟨_, rfl⟩
                rw [← hW17] at hb17 ⊢
                replace new17 : Blk V17 (V15).heap.size [Value.slice none 0 0, Value.slice none 0 0, Value.slice none 0 0, Value.slice none 0 0] 27 := by rw [hW17]; exact new17
                clear hW17
                have lt17 := h5_15.lt
                have kk17 := kk15.step hb17
                have sz17 : W0.heap.size ≤ V17.heap.size := Nat.le_trans sz15 hb17.size
                have hx_17 := OwnX.step hx_15 hb17
                have hy_17 := OwnX.step ex15 hb17
                have h5_17 := Blk.step h5_15 hb17
                refine hK.out _ _ kk17.cells (fun _ => ?_)
                clear hK K
                try simp only [Act.put, List.getElem_toArray, List.getElem_cons_zero, List.getElem_cons_succ, List.setIfInBounds_toArray, List.set_cons_zero, List.set_cons_succ]
                obtain ⟨r0, r1, r2, r3⟩ := cells4'' h5_17
                obtain ⟨f0, f1, f2, f3⟩ := free4 h5_17
                have hne : (V1).heap.size ≠ (V15).heap.size := (Nat.ne_of_lt lt17)
                obtain ⟨bx, hkx, h6x, h5x, hKx, hxx, hyx⟩ := store_one h5_17 new17 hne kk17 (by exact sz1) hx_17 hy_17 hw2s (.slice x.oa x.os.length x.ocap) (.slice x.ra x.rs.length x.rcap) (.slice x.wa x.ws.length x.wcap) (.slice x.da x.ds.length x.dcap)
                refine wpAnyH_ready (rs := [6]) (by kernel_rfl) (by simp) ?_
                refine AllReadyH.cons (o := _) rfl (fun K hK => ?_) AllReadyH.nil
                go_simp
                refine hK.out _ _ hKx.cells (fun _ => ?_)
                clear hK K
                obtain ⟨WX, hWX⟩ : ∃ WX, WX = ((((V17.setCell ⟨(V1).heap.size, 0, none⟩ (.slice x.oa x.os.length x.ocap)).setCell ⟨(V1).heap.size, 1, none⟩ (.slice x.ra x.rs.length x.rcap)).setCell ⟨(V1).heap.size, 2, none⟩ (.slice x.wa x.ws.length x.wcap)).setCell ⟨(V1).heap.size, 3, none⟩ (.slice x.da x.ds.length x.dcap)) := ⟨_, rfl⟩
                rw [← hWX] at hKx h5x h6x hxx hyx ⊢
                clear hWX r0 r1 r2 r3 f0 f1 f2 f3 hkx
                obtain ⟨r0, r1, r2, r3⟩ := cells4'' h6x
                obtain ⟨f0, f1, f2, f3⟩ := free4 h6x
                obtain ⟨by_, hky, h5y, h6y, hKy, hxy, hyy⟩ := store_one h6x h5x hne.symm hKx (by exact sz15) hxx hyx hw2s (.slice y.oa y.os.length y.ocap) (.slice y.ra y.rs.length y.rcap) (.slice y.wa y.ws.length y.wcap) (.slice y.da y.ds.length y.dcap)
                refine wpAnyH_ready (rs := [7]) (by kernel_rfl) (by simp) ?_
                refine AllReadyH.cons (o := _) rfl (fun K hK => ?_) AllReadyH.nil
                go_simp
                refine hK.out _ _ hKy.cells (fun _ => ?_)
                clear hK K
                refine wpAnyH_done (by kernel_rfl) ?_ _
                go_wp2_with fail
                go_meet
                case rel => exact ⟨(V1).heap.size, (V15).heap.size, x, y, rfl, rfl, ⟨HPX, HPY, h5y, h6y, hxy, hyy, hKy.below⟩⟩
            case am14 =>
              have hb19 : Below (V13).heap.size (V13) ((V13).alloc (Obj.cells #[Value.slice none 0 0, Value.slice none 0 0, Value.slice none 0 0, Value.slice none 0 0] 27)) := (Below.refl _ _).alloc (Nat.le_refl _) _
              have new19 := Blk.new (V13) [Value.slice none 0 0, Value.slice none 0 0, Value.slice none 0 0, Value.slice none 0 0] 27
              go_simp
              obtain ⟨V19, hW19⟩ : ∃ W, W = (V13).alloc (Obj.cells #[Value.slice none 0 0, Value.slice none 0 0, Value.slice none 0 0, Value.slice none 0 0] 27) := ⟨_, rfl⟩
              rw [← hW19] at hb19 ⊢
              replace new19 : Blk V19 (V13).heap.size [Value.slice none 0 0, Value.slice none 0 0, Value.slice none 0 0, Value.slice none 0 0] 27 := by rw [hW19]; exact new19
              clear hW19
              have lt19 := new13.lt
              have kk19 := kk13.step hb19
              have sz19 : W0.heap.size ≤ V19.heap.size := Nat.le_trans sz13 hb19.size
              have hx_19 := OwnX.step hx_13 hb19
              have h5_19 := Blk.step new13 hb19
              refine hK.out _ _ kk19.cells (fun _ => ?_)
              clear hK K
              try simp only [Act.put, List.getElem_toArray, List.getElem_cons_zero, List.getElem_cons_succ, List.setIfInBounds_toArray, List.set_cons_zero, List.set_cons_succ]
              refine wpAnyH_ready (rs := [3]) (by kernel_rfl) (by simp) ?_
              refine AllReadyH.cons (o := _) rfl (fun K hK => ?cb20) AllReadyH.nil
              case cb20 =>
                have c := lookOf_any b (V19) (hb.below kk19.below (Nat.le_refl _)) HB.out
                simp only [Hp.v] at c
                go_simp
                refine c.mono ?_
                rintro e V21 ⟨y, rfl, hpy, hoy, hb21⟩
                have HPY : Hid (y.p = ((lookP b.p).o, (lookP b.p).r, (lookP b.p).w, (lookP b.p).d)) := hpy
                have ex21 : OwnX V21 y := ⟨_, hoy⟩
                clear hpy hoy c
                go_wp2_with fail
                have kk21 := kk19.step hb21
                have sz21 : W0.heap.size ≤ V21.heap.size := Nat.le_trans sz19 hb21.size
                have hx_21 := OwnX.step hx_19 hb21
                have h5_21 := Blk.step h5_19 hb21
                have h6_21 := Blk.step new19 hb21
                refine hK.out _ _ kk21.cells (fun _ => ?_)
                clear hK K
                try simp only [Act.put, List.getElem_toArray, List.getElem_cons_zero, List.getElem_cons_succ, List.setIfInBounds_toArray, List.set_cons_zero, List.set_cons_succ]
                obtain ⟨r0, r1, r2, r3⟩ := cells4'' h5_21
                obtain ⟨f0, f1, f2, f3⟩ := free4 h5_21
                have hne : (V1).heap.size ≠ (V13).heap.size := (Nat.ne_of_lt lt19)
                obtain ⟨bx, hkx, h6x, h5x, hKx, hxx, hyx⟩ := store_one h5_21 h6_21 hne kk21 (by exact sz1) hx_21 ex21 hw2s (.slice x.oa x.os.length x.ocap) (.slice x.ra x.rs.length x.rcap) (.slice x.wa x.ws.length x.wcap) (.slice x.da x.ds.length x.dcap)
                refine wpAnyH_ready (rs := [6]) (by kernel_rfl) (by simp) ?_
                refine AllReadyH.cons (o := _) rfl (fun K hK => ?_) AllReadyH.nil
                go_simp
                refine hK.out _ _ hKx.cells (fun _ => ?_)
                clear hK K
                obtain ⟨WX, hWX⟩ : ∃ WX, WX = ((((V21.setCell ⟨(V1).heap.size, 0, none⟩ (.slice x.oa x.os.length x.ocap)).setCell ⟨(V1).heap.size, 1, none⟩ (.slice x.ra x.rs.length x.rcap)).setCell ⟨(V1).heap.size, 2, none⟩ (.slice x.wa x.ws.length x.wcap)).setCell ⟨(V1).heap.size, 3, none⟩ (.slice x.da x.ds.length x.dcap)) := ⟨_, rfl⟩
                rw [← hWX] at hKx h5x h6x hxx hyx ⊢
                clear hWX r0 r1 r2 r3 f0 f1 f2 f3 hkx
                obtain ⟨r0, r1, r2, r3⟩ := cells4'' h6x
                obtain ⟨f0, f1, f2, f3⟩ := free4 h6x
                obtain ⟨by_, hky, h5y, h6y, hKy, hxy, hyy⟩ := store_one h6x h5x hne.symm hKx (by exact sz13) hxx hyx hw2s (.slice y.oa y.os.length y.ocap) (.slice y.ra y.rs.length y.rcap) (.slice y.wa y.ws.length y.wcap) (.slice y.da y.ds.length y.dcap)
                refine wpAnyH_ready (rs := [7]) (by kernel_rfl) (by simp) ?_
                refine AllReadyH.cons (o := _) rfl (fun K hK => ?_) AllReadyH.nil
                go_simp
                refine hK.out _ _ hKy.cells (fun _ => ?_)
                clear hK K
                refine wpAnyH_done (by kernel_rfl) ?_ _
                go_wp2_with fail
                go_meet
                case rel => exact ⟨(V1).heap.size, (V13).heap.size, x, y, rfl, rfl, ⟨HPX, HPY, h5y, h6y, hxy, hyy, hKy.below⟩⟩
          case am2 =>
            have hb23 : Below (V1).heap.size (V1) ((V1).alloc (Obj.cells #[Value.slice none 0 0, Value.slice none 0 0, Value.slice none 0 0, Value.slice none 0 0] 27)) := (Below.refl _ _).alloc (Nat.le_refl _) _
            have new23 := Blk.new (V1) [Value.slice none 0 0, Value.slice none 0 0, Value.slice none 0 0, Value.slice none 0 0] 27
            go_simp
            obtain ⟨V23, hW23⟩ : ∃ W, W = (V1).alloc (Obj.cells #[Value.slice none 0 0, Value.slice none 0 0, Value.slice none 0 0, Value.slice none 0 0] 27) := ⟨_, rfl⟩
            rw [← hW23] at hb23 ⊢
            replace new23 : Blk V23 (V1).heap.size [Value.slice none 0 0, Value.slice none 0 0, Value.slice none 0 0, Value.slice none 0 0] 27 := by rw [hW23]; exact new23
            clear hW23
            have kk23 := kk1.step hb23
            have sz23 : W0.heap.size ≤ V23.heap.size := Nat.le_trans sz1 hb23.size
            have hx_23 := OwnX.step ex1 hb23
            refine hK.out _ _ kk23.cells (fun _ => ?_)
            clear hK K
            try simp only [Act.put, List.getElem_toArray, List.getElem_cons_zero, List.getElem_cons_succ, List.setIfInBounds_toArray, List.set_cons_zero, List.set_cons_succ]
            refine wpAnyH_ready (rs := [3, 4]) (by kernel_rfl) (by simp) ?_
            refine AllReadyH.cons (o := _) rfl (fun K hK => ?cb24) (AllReadyH.cons (o := _) rfl (fun K hK => ?al24) AllReadyH.nil)
            case cb24 =>
              have c := lookOf_any b (V23) (hb.below kk23.below (Nat.le_refl _)) HB.out
              simp only [Hp.v] at c
              go_simp
              refine c.mono ?_
              rintro e V25 ⟨y, rfl, hpy, hoy, hb25⟩
              have HPY : Hid (y.p = ((lookP b.p).o, (lookP b.p).r, (lookP b.p).w, (lookP b.p).d)) := hpy
              have ex25 : OwnX V25 y := ⟨_, hoy⟩
              clear hpy hoy c
              go_wp2_with fail
              have kk25 := kk23.step hb25
              have sz25 : W0.heap.size ≤ V25.heap.size := Nat.le_trans sz23 hb25.size
              have hx_25 := OwnX.step hx_23 hb25
              have h6_25 := Blk.step new23 hb25
              refine hK.out _ _ kk25.cells (fun _ => ?_)
              clear hK K
              try simp only [Act.put, List.getElem_toArray, List.getElem_cons_zero, List.getElem_cons_succ, List.setIfInBounds_toArray, List.set_cons_zero, List.set_cons_succ]
              refine wpAnyH_ready (rs := [4]) (by kernel_rfl) (by simp) ?_
              refine AllReadyH.cons (o := _) rfl (fun K hK => ?al26) AllReadyH.nil
              case al26 =>
                have hb27 : Below (V25).heap.size (V25) ((V25).alloc (Obj.cells #[Value.slice none 0 0, Value.slice none 0 0, Value.slice none 0 0, Value.slice none 0 0] 27)) := (Below.refl _ _).alloc (Nat.le_refl _) _
                have new27 := Blk.new (V25) [Value.slice none 0 0, Value.slice none 0 0, Value.slice none 0 0, Value.slice none 0 0] 27
                go_simp
                obtain ⟨V27, hW27⟩ : ∃ W, W = (V25).alloc (Obj.cells #[Value.slice none 0 0, Value.slice none 0 0, Value.slice none 0 0, Value.slice none 0 0] 27) := ⟨_, rfl⟩
                rw [← hW27] at hb27 ⊢
                replace new27 : Blk V27 (V25).heap.size [Value.slice none 0 0, Value.slice none 0 0, Value.slice none 0 0, Value.slice none 0 0] 27 := by rw [hW27]; exact new27
                clear hW27
                have lt27 := h6_25.lt
                have kk27 := kk25.step hb27
                have sz27 : W0.heap.size ≤ V27.heap.size := Nat.le_trans sz25 hb27.size
                have hx_27 := OwnX.step hx_25 hb27
                have hy_27 := OwnX.step ex25 hb27
                have h6_27 := Blk.step h6_25 hb27
                refine hK.out _ _ kk27.cells (fun _ => ?_)
                clear hK K
                try simp only [Act.put, List.getElem_toArray, List.getElem_cons_zero, List.getElem_cons_succ, List.setIfInBounds_toArray, List.set_cons_zero, List.set_cons_succ]
                obtain ⟨r0, r1, r2, r3⟩ := cells4'' new27
                obtain ⟨f0, f1, f2, f3⟩ := free4 new27
                have hne : (V25).heap.size ≠ (V1).heap.size := (Nat.ne_of_gt lt27)
                obtain ⟨bx, hkx, h6x, h5x, hKx, hxx, hyx⟩ := store_one new27 h6_27 hne kk27 (by exact sz25) hx_27 hy_27 hw2s (.slice x.oa x.os.length x.ocap) (.slice x.ra x.rs.length x.rcap) (.slice x.wa x.ws.length x.wcap) (.slice x.da x.ds.length x.dcap)
                refine wpAnyH_ready (rs := [6]) (by kernel_rfl) (by simp) ?_
                refine AllReadyH.cons (o := _) rfl (fun K hK => ?_) AllReadyH.nil
                go_simp
                refine hK.out _ _ hKx.cells (fun _ => ?_)
                clear hK K
                obtain ⟨WX, hWX⟩ : ∃ WX, WX = ((((V27.setCell ⟨(V25).heap.size, 0, none⟩ (.slice x.oa x.os.length x.ocap)).setCell ⟨(V25).heap.size, 1, none⟩ (.slice x.ra x.rs.length x.rcap)).setCell ⟨(V25).heap.size, 2, none⟩ (.slice x.wa x.ws.length x.wcap)).setCell ⟨(V25).heap.size, 3, none⟩ (.slice x.da x.ds.length x.dcap)) := ⟨_, rfl⟩
                rw [← hWX] at hKx h5x h6x hxx hyx ⊢
                clear hWX r0 r1 r2 r3 f0 f1 f2 f3 hkx
                obtain ⟨r0, r1, r2, r3⟩ := cells4'' h6x
                obtain ⟨f0, f1, f2, f3⟩ := free4 h6x
                obtain ⟨by_, hky, h5y, h6y, hKy, hxy, hyy⟩ := store_one h6x h5x hne.symm hKx (by exact sz1) hxx hyx hw2s (.slice y.oa y.os.length y.ocap) (.slice y.ra y.rs.length y.rcap) (.slice y.wa y.ws.length y.wcap) (.slice y.da y.ds.length y.dcap)
                refine wpAnyH_ready (rs := [7]) (by kernel_rfl) (by simp) ?_
                refine AllReadyH.cons (o := _) rfl (fun K hK => ?_) AllReadyH.nil
                go_simp
                refine hK.out _ _ hKy.cells (fun _ => ?_)
                clear hK K
                refine wpAnyH_done (by kernel_rfl) ?_ _
                go_wp2_with fail
                go_meet
                case rel => exact ⟨(V25).heap.size, (V1).heap.size, x, y, rfl, rfl, ⟨HPX, HPY, h5y, h6y, hxy, hyy, hKy.below⟩⟩
            case al24 =>
              have hb29 : Below (V23).heap.size (V23) ((V23).alloc (Obj.cells #[Value.slice none 0 0, Value.slice none 0 0, Value.slice none 0 0, Value.slice none 0 0] 27)) := (Below.refl _ _).alloc (Nat.le_refl _) _
              have new29 := Blk.new (V23) [Value.slice none 0 0, Value.slice none 0 0, Value.slice none 0 0, Value.slice none 0 0] 27
              go_simp
              obtain ⟨V29, hW29⟩ : ∃ W, W = (V23).alloc (Obj.cells #[Value.slice none 0 0, Value.slice none 0 0, Value.slice none 0 0, Value.slice none 0 0] 27) := ⟨_, rfl⟩
              rw [← hW29] at hb29 ⊢
              replace new29 : Blk V29 (V23).heap.size [Value.slice none 0 0, Value.slice none 0 0, Value.slice none 0 0, Value.slice none 0 0] 27 := by rw [hW29]; exact new29
              clear hW29
              have lt29 := new23.lt
              have kk29 := kk23.step hb29
              have sz29 : W0.heap.size ≤ V29.heap.size := Nat.le_trans sz23 hb29.size
              have hx_29 := OwnX.step hx_23 hb29
              have h6_29 := Blk.step new23 hb29
              refine hK.out _ _ kk29.cells (fun _ => ?_)
              clear hK K
              try simp only [Act.put, List.getElem_toArray, List.getElem_cons_zero, List.getElem_cons_succ, List.setIfInBounds_toArray, List.set_cons_zero, List.set_cons_succ]
              refine wpAnyH_ready (rs := [3]) (by kernel_rfl) (by simp) ?_
              refine AllReadyH.cons (o := _) rfl (fun K hK => ?cb30) AllReadyH.nil
              case cb30 =>
                have c := lookOf_any b (V29) (hb.below kk29.below (Nat.le_refl _)) HB.out
                simp only [Hp.v] at c
                go_simp
                refine c.mono ?_
                rintro e V31 ⟨y, rfl, hpy, hoy, hb31⟩
                have HPY : Hid (y.p = ((lookP b.p).o, (lookP b.p).r, (lookP b.p).w, (lookP b.p).d)) := hpy
                have ex31 : OwnX V31 y := ⟨_, hoy⟩
                clear hpy hoy c
                go_wp2_with fail
                have kk31 := kk29.step hb31
                have sz31 : W0.heap.size ≤ V31.heap.size := Nat.le_trans sz29 hb31.size
                have hx_31 := OwnX.step hx_29 hb31
                have h5_31 := Blk.step new29 hb31
                have h6_31 := Blk.step h6_29 hb31
                refine hK.out _ _ kk31.cells (fun _ => ?_)
                clear hK K
                try simp only [Act.put, List.getElem_toArray, List.getElem_cons_zero, List.getElem_cons_succ, List.setIfInBounds_toArray, List.set_cons_zero, List.set_cons_succ]
                obtain ⟨r0, r1, r2, r3⟩ := cells4'' h5_31
                obtain ⟨f0, f1, f2, f3⟩ := free4 h5_31
                have hne : (V23).heap.size ≠ (V1).heap.size := (Nat.ne_of_gt lt29)
                obtain ⟨bx, hkx, h6x, h5x, hKx, hxx, hyx⟩ := store_one h5_31 h6_31 hne kk31 (by exact sz23) hx_31 ex31 hw2s (.slice x.oa x.os.length x.ocap) (.slice x.ra x.rs.length x.rcap) (.slice x.wa x.ws.length x.wcap) (.slice x.da x.ds.length x.dcap)
                refine wpAnyH_ready (rs := [6]) (by kernel_rfl) (by simp) ?_
                refine AllReadyH.cons (o := _) rfl (fun K hK => ?_) AllReadyH.nil
                go_simp
                refine hK.out _ _ hKx.cells (fun _ => ?_)
                clear hK K
                obtain ⟨WX, hWX⟩ : ∃ WX, WX = ((((V31.setCell ⟨(V23).heap.size, 0, none⟩ (.slice x.oa x.os.length x.ocap)).setCell ⟨(V23).heap.size, 1, none⟩ (.slice x.ra x.rs.length x.rcap)).setCell ⟨(V23).heap.size, 2, none⟩ (.slice x.wa x.ws.length x.wcap)).setCell ⟨(V23).heap.size, 3, none⟩ (.slice x.da x.ds.length x.dcap)) := ⟨_, rfl⟩
                rw [← hWX] at hKx h5x h6x hxx hyx ⊢
                clear hWX r0 r1 r2 r3 f0 f1 f2 f3 hkx
                obtain ⟨r0, r1, r2, r3⟩ := cells4'' h6x
                obtain ⟨f0, f1, f2, f3⟩ := free4 h6x
                obtain ⟨by_, hky, h5y, h6y, hKy, hxy, hyy⟩ := store_one h6x h5x hne.symm hKx (by exact sz1) hxx hyx hw2s (.slice y.oa y.os.length y.ocap) (.slice y.ra y.rs.length y.rcap) (.slice y.wa y.ws.length y.wcap) (.slice y.da y.ds.length y.dcap)
                refine wpAnyH_ready (rs := [7]) (by kernel_rfl) (by simp) ?_
                refine AllReadyH.cons (o := _) rfl (fun K hK => ?_) AllReadyH.nil
                go_simp
                refine hK.out _ _ hKy.cells (fun _ => ?_)
                clear hK K
                refine wpAnyH_done (by kernel_rfl) ?_ _
                go_wp2_with fail
                go_meet
                case rel => exact ⟨(V23).heap.size, (V1).heap.size, x, y, rfl, rfl, ⟨HPX, HPY, h5y, h6y, hxy, hyy, hKy.below⟩⟩
        case al0 =>
          have hb33 : Below (W0).heap.size (W0) ((W0).alloc (Obj.cells #[Value.slice none 0 0, Value.slice none 0 0, Value.slice none 0 0, Value.slice none 0 0] 27)) := (Below.refl _ _).alloc (Nat.le_refl _) _
          have new33 := Blk.new (W0) [Value.slice none 0 0, Value.slice none 0 0, Value.slice none 0 0, Value.slice none 0 0] 27
          go_simp
          obtain ⟨V33, hW33⟩ : ∃ W, W = (W0).alloc (Obj.cells #[Value.slice none 0 0, Value.slice none 0 0, Value.slice none 0 0, Value.slice none 0 0] 27) := ⟨_, rfl⟩
          rw [← hW33] at hb33 ⊢
          replace new33 : Blk V33 (W0).heap.size [Value.slice none 0 0, Value.slice none 0 0, Value.slice none 0 0, Value.slice none 0 0] 27 := by rw [hW33]; exact new33
          clear hW33
          have kk33 := hK2d.step hb33
          have sz33 : W0.heap.size ≤ V33.heap.size := Nat.le_trans (Nat.le_refl W0.heap.size) hb33.size
          refine hK.out _ _ kk33.cells (fun _ => ?_)
          clear hK K
          try simp only [Act.put, List.getElem_toArray, List.getElem_cons_zero, List.getElem_cons_succ, List.setIfInBounds_toArray, List.set_cons_zero, List.set_cons_succ]
          refine wpAnyH_ready (rs := [1, 5]) (by kernel_rfl) (by simp) ?_
          refine AllReadyH.cons (o := _) rfl (fun K hK => ?ca34) (AllReadyH.cons (o := _) rfl (fun K hK => ?am34) AllReadyH.nil)
          case ca34 =>
            have c := lookOf_any a (V33) (ha.below kk33.below (Nat.le_refl _)) HA.out
            simp only [Hp.v] at c
            go_simp
            refine c.mono ?_
            rintro e V35 ⟨x, rfl, hpx, hox, hb35⟩
            have HPX : Hid (x.p = ((lookP a.p).o, (lookP a.p).r, (lookP a.p).w, (lookP a.p).d)) := hpx
            have ex35 : OwnX V35 x := ⟨_, hox⟩
            clear hpx hox c
            go_wp2_with fail
            have kk35 := kk33.step hb35
            have sz35 : W0.heap.size ≤ V35.heap.size := Nat.le_trans sz33 hb35.size
            have h5_35 := Blk.step new33 hb35
            refine hK.out _ _ kk35.cells (fun _ => ?_)
            clear hK K
            try simp only [Act.put, List.getElem_toArray, List.getElem_cons_zero, List.getElem_cons_succ, List.setIfInBounds_toArray, List.set_cons_zero, List.set_cons_succ]
            refine wpAnyH_ready (rs := [3, 5]) (by kernel_rfl) (by simp) ?_
            refine AllReadyH.cons (o := _) rfl (fun K hK => ?cb36) (AllReadyH.cons (o := _) rfl (fun K hK => ?am36) AllReadyH.nil)
            case cb36 =>
              have c := lookOf_any b (V35) (hb.below kk35.below (Nat.le_refl _)) HB.out
              simp only [Hp.v] at c
              go_simp
              refine c.mono ?_
              rintro e V37 ⟨y, rfl, hpy, hoy, hb37⟩
              have HPY : Hid (y.p = ((lookP b.p).o, (lookP b.p).r, (lookP b.p).w, (lookP b.p).d)) := hpy
              have ex37 : OwnX V37 y := ⟨_, hoy⟩
              clear hpy hoy c
              go_wp2_with fail
              have kk37 := kk35.step hb37
              have sz37 : W0.heap.size ≤ V37.heap.size := Nat.le_trans sz35 hb37.size
              have hx_37 := OwnX.step ex35 hb37
              have h5_37 := Blk.step h5_35 hb37
              refine hK.out _ _ kk37.cells (fun _ => ?_)
              clear hK K
              try simp only [Act.put, List.getElem_toArray, List.getElem_cons_zero, List.getElem_cons_succ, List.setIfInBounds_toArray, List.set_cons_zero, List.set_cons_succ]
              refine wpAnyH_ready (rs := [5]) (by kernel_rfl) (by simp) ?_
              refine AllReadyH.cons (o := _) rfl (fun K hK => ?am38) AllReadyH.nil
              case am38 =>
                have hb39 : Below (V37).heap.size (V37) ((V37).alloc (Obj.cells #[Value.slice none 0 0, Value.slice none 0 0, Value.slice none 0 0, Value.slice none 0 0] 27)) := (Below.refl _ _).alloc (Nat.le_refl _) _
                have new39 := Blk.new (V37) [Value.slice none 0 0, Value.slice none 0 0, Value.slice none 0 0, Value.slice none 0 0] 27
                go_simp
                obtain ⟨V39, hW39⟩ : ∃ W, W = (V37).alloc (Obj.cells #[Value.slice none 0 0, Value.slice none 0 0, Value.slice none 0 0, Value.slice none 0 0] 27) := ⟨_, rfl⟩
                rw [← hW39] at hb39 ⊢
                replace new39 : Blk V39 (V37).heap.size [Value.slice none 0 0, Value.slice none 0 0, Value.slice none 0 0, Value.slice none 0 0] 27 := by rw [hW39]; exact new39
                clear hW39
                have lt39 := h5_37.lt
                have kk39 := kk37.step hb39
                have sz39 : W0.heap.size ≤ V39.heap.size := Nat.le_trans sz37 hb39.size
                have hx_39 := OwnX.step hx_37 hb39
                have hy_39 := OwnX.step ex37 hb39
                have h5_39 := Blk.step h5_37 hb39
                refine hK.out _ _ kk39.cells (fun _ => ?_)
                clear hK K
                try simp only [Act.put, List.getElem_toArray, List.getElem_cons_zero, List.getElem_cons_succ, List.setIfInBounds_toArray, List.set_cons_zero, List.set_cons_succ]
                obtain ⟨r0, r1, r2, r3⟩ := cells4'' h5_39
                obtain ⟨f0, f1, f2, f3⟩ := free4 h5_39
                have hne : (W0).heap.size ≠ (V37).heap.size := (Nat.ne_of_lt lt39)
                obtain ⟨bx, hkx, h6x, h5x, hKx, hxx, hyx⟩ := store_one h5_39 new39 hne kk39 (by exact (Nat.le_refl W0.heap.size)) hx_39 hy_39 hw2s (.slice x.oa x.os.length x.ocap) (.slice x.ra x.rs.length x.rcap) (.slice x.wa x.ws.length x.wcap) (.slice x.da x.ds.length x.dcap)
                refine wpAnyH_ready (rs := [6]) (by kernel_rfl) (by simp) ?_
                refine AllReadyH.cons (o := _) rfl (fun K hK => ?_) AllReadyH.nil
                go_simp
                refine hK.out _ _ hKx.cells (fun _ => ?_)
                clear hK K
                obtain ⟨WX, hWX⟩ : ∃ WX, WX = ((((V39.setCell ⟨(W0).heap.size, 0, none⟩ (.slice x.oa x.os.length x.ocap)).setCell ⟨(W0).heap.size, 1, none⟩ (.slice x.ra x.rs.length x.rcap)).setCell ⟨(W0).heap.size, 2, none⟩ (.slice x.wa x.ws.length x.wcap)).setCell ⟨(W0).heap.size, 3, none⟩ (.slice x.da x.ds.length x.dcap)) := ⟨_, rfl⟩
                rw [← hWX] at hKx h5x h6x hxx hyx ⊢
                clear hWX r0 r1 r2 r3 f0 f1 f2 f3 hkx
                obtain ⟨r0, r1, r2, r3⟩ := cells4'' h6x
                obtain ⟨f0, f1, f2, f3⟩ := free4 h6x
                obtain ⟨by_, hky, h5y, h6y, hKy, hxy, hyy⟩ := store_one h6x h5x hne.symm hKx (by exact sz37) hxx hyx hw2s (.slice y.oa y.os.length y.ocap) (.slice y.ra y.rs.length y.rcap) (.slice y.wa y.ws.length y.wcap) (.slice y.da y.ds.length y.dcap)
                refine wpAnyH_ready (rs := [7]) (by kernel_rfl) (by simp) ?_
                refine AllReadyH.cons (o := _) rfl (fun K hK => ?_) AllReadyH.nil
                go_simp
                refine hK.out _ _ hKy.cells (fun _ => ?_)
                clear hK K
                refine wpAnyH_done (by kernel_rfl) ?_ _
                go_wp2_with fail
                go_meet
                case rel => exact ⟨(W0).heap.size, (V37).heap.size, x, y, rfl, rfl, ⟨HPX, HPY, h5y, h6y, hxy, hyy, hKy.below⟩⟩
            case am36 =>
              have hb41 : Below (V35).heap.size (V35) ((V35).alloc (Obj.cells #[Value.slice none 0 0, Value.slice none 0 0, Value.slice none 0 0, Value.slice none 0 0] 27)) := (Below.refl _ _).alloc (Nat.le_refl _) _
              have new41 := Blk.new (V35) [Value.slice none 0 0, Value.slice none 0 0, Value.slice none 0 0, Value.slice none 0 0] 27
              go_simp
              obtain ⟨V41, hW41⟩ : ∃ W, W = (V35).alloc (Obj.cells #[Value.slice none 0 0, Value.slice none 0 0, Value.slice none 0 0, Value.slice none 0 0] 27) := ⟨_, rfl⟩
              rw [← hW41] at hb41 ⊢
              replace new41 : Blk V41 (V35).heap.size [Value.slice none 0 0, Value.slice none 0 0, Value.slice none 0 0, Value.slice none 0 0] 27 := by rw [hW41]; exact new41
              clear hW41
              have lt41 := h5_35.lt
              have kk41 := kk35.step hb41
              have sz41 : W0.heap.size ≤ V41.heap.size := Nat.le_trans sz35 hb41.size
              have hx_41 := OwnX.step ex35 hb41
              have h5_41 := Blk.step h5_35 hb41
              refine hK.out _ _ kk41.cells (fun _ => ?_)
              clear hK K
              try simp only [Act.put, List.getElem_toArray, List.getElem_cons_zero, List.getElem_cons_succ, List.setIfInBounds_toArray, List.set_cons_zero, List.set_cons_succ]
              refine wpAnyH_ready (rs := [3]) (by kernel_rfl) (by simp) ?_
              refine AllReadyH.cons (o := _) rfl (fun K hK => ?cb42) AllReadyH.nil
              case cb42 =>
                have c := lookOf_any b (V41) (hb.below kk41.below (Nat.le_refl _)) HB.out
                simp only [Hp.v] at c
                go_simp
                refine c.mono ?_
                rintro e V43 ⟨y, rfl, hpy, hoy, hb43⟩
                have HPY : Hid (y.p = ((lookP b.p).o, (lookP b.p).r, (lookP b.p).w, (lookP b.p).d)) := hpy
                have ex43 : OwnX V43 y := ⟨_, hoy⟩
                clear hpy hoy c
                go_wp2_with fail
                have kk43 := kk41.step hb43
                have sz43 : W0.heap.size ≤ V43.heap.size := Nat.le_trans sz41 hb43.size
                have hx_43 := OwnX.step hx_41 hb43
                have h5_43 := Blk.step h5_41 hb43
                have h6_43 := Blk.step new41 hb43
                refine hK.out _ _ kk43.cells (fun _ => ?_)
                clear hK K
                try simp only [Act.put, List.getElem_toArray, List.getElem_cons_zero, List.getElem_cons_succ, List.setIfInBounds_toArray, List.set_cons_zero, List.set_cons_succ]
                obtain ⟨r0, r1, r2, r3⟩ := cells4'' h5_43
                obtain ⟨f0, f1, f2, f3⟩ := free4 h5_43
                have hne : (W0).heap.size ≠ (V35).heap.size := (Nat.ne_of_lt lt41)
                obtain ⟨bx, hkx, h6x, h5x, hKx, hxx, hyx⟩ := store_one h5_43 h6_43 hne kk43 (by exact (Nat.le_refl W0.heap.size)) hx_43 ex43 hw2s (.slice x.oa x.os.length x.ocap) (.slice x.ra x.rs.length x.rcap) (.slice x.wa x.ws.length x.wcap) (.slice x.da x.ds.length x.dcap)
                refine wpAnyH_ready (rs := [6]) (by kernel_rfl) (by simp) ?_
                refine AllReadyH.cons (o := _) rfl (fun K hK => ?_) AllReadyH.nil
                go_simp
                refine hK.out _ _ hKx.cells (fun _ => ?_)
                clear hK K
                obtain ⟨WX, hWX⟩ : ∃ WX, WX = ((((V43.setCell ⟨(W0).heap.size, 0, none⟩ (.slice x.oa x.os.length x.ocap)).setCell ⟨(W0).heap.size, 1, none⟩ (.slice x.ra x.rs.length x.rcap)).setCell ⟨(W0).heap.size, 2, none⟩ (.slice x.wa x.ws.length x.wcap)).setCell ⟨(W0).heap.size, 3, none⟩ (.slice x.da x.ds.length x.dcap)) := ⟨_, rfl⟩
                rw [← hWX] at hKx h5x h6x hxx hyx ⊢
                clear hWX r0 r1 r2 r3 f0 f1 f2 f3 hkx
                obtain ⟨r0, r1, r2, r3⟩ := cells4'' h6x
                obtain ⟨f0, f1, f2, f3⟩ := free4 h6x
                obtain ⟨by_, hky, h5y, h6y, hKy, hxy, hyy⟩ := store_one h6x h5x hne.symm hKx (by exact sz35) hxx hyx hw2s (.slice y.oa y.os.length y.ocap) (.slice y.ra y.rs.length y.rcap) (.slice y.wa y.ws.length y.wcap) (.slice y.da y.ds.length y.dcap)
                refine wpAnyH_ready (rs := [7]) (by kernel_rfl) (by simp) ?_
                refine AllReadyH.cons (o := _) rfl (fun K hK => ?_) AllReadyH.nil
                go_simp
                refine hK.out _ _ hKy.cells (fun _ => ?_)
                clear hK K
                refine wpAnyH_done (by kernel_rfl) ?_ _
                go_wp2_with fail
                go_meet
                case rel => exact ⟨(W0).heap.size, (V35).heap.size, x, y, rfl, rfl, ⟨HPX, HPY, h5y, h6y, hxy, hyy, hKy.below⟩⟩
          case am34 =>
            have hb45 : Below (V33).heap.size (V33) ((V33).alloc (Obj.cells #[Value.slice none 0 0, Value.slice none 0 0, Value.slice none 0 0, Value.slice none 0 0] 27)) := (Below.refl _ _).alloc (Nat.le_refl _) _
            have new45 := Blk.new (V33) [Value.slice none 0 0, Value.slice none 0 0, Value.slice none 0 0, Value.slice none 0 0] 27
            go_simp
            obtain ⟨V45, hW45⟩ : ∃ W, W = (V33).alloc (Obj.cells #[Value.slice none 0 0, Value.slice none 0 0, Value.slice none 0 0, Value.slice none 0 0] 27) := ⟨_, rfl⟩
            rw [← hW45] at hb45 ⊢
            replace new45 : Blk V45 (V33).heap.size [Value.slice none 0 0, Value.slice none 0 0, Value.slice none 0 0, Value.slice none 0 0] 27 := by rw [hW45]; exact new45
            clear hW45
            have lt45 := new33.lt
            have kk45 := kk33.step hb45
            have sz45 : W0.heap.size ≤ V45.heap.size := Nat.le_trans sz33 hb45.size
            have h5_45 := Blk.step new33 hb45
            refine hK.out _ _ kk45.cells (fun _ => ?_)
            clear hK K
            try simp only [Act.put, List.getElem_toArray, List.getElem_cons_zero, List.getElem_cons_succ, List.setIfInBounds_toArray, List.set_cons_zero, List.set_cons_succ]
            refine wpAnyH_ready (rs := [1]) (by kernel_rfl) (by simp) ?_
            refine AllReadyH.cons (o := _) rfl (fun K hK => ?ca46) AllReadyH.nil
            case ca46 =>
              have c := lookOf_any a (V45) (ha.below kk45.below (Nat.le_refl _)) HA.out
              simp only [Hp.v] at c
              go_simp
              refine c.mono ?_
              rintro e V47 ⟨x, rfl, hpx, hox, hb47⟩
              have HPX : Hid (x.p = ((lookP a.p).o, (lookP a.p).r, (lookP a.p).w, (lookP a.p).d)) := hpx
              have ex47 : OwnX V47 x := ⟨_, hox⟩
              clear hpx hox c
              go_wp2_with fail
              have kk47 := kk45.step hb47
              have sz47 : W0.heap.size ≤ V47.heap.size := Nat.le_trans sz45 hb47.size
              have h5_47 := Blk.step h5_45 hb47
              have h6_47 := Blk.step new45 hb47
              refine hK.out _ _ kk47.cells (fun _ => ?_)
              clear hK K
              try simp only [Act.put, List.getElem_toArray, List.getElem_cons_zero, List.getElem_cons_succ, List.setIfInBounds_toArray, List.set_cons_zero, List.set_cons_succ]
              refine wpAnyH_ready (rs := [3]) (by kernel_rfl) (by simp) ?_
              refine AllReadyH.cons (o := _) rfl (fun K hK => ?cb48) AllReadyH.nil
              case cb48 =>
                have c := lookOf_any b (V47) (hb.below kk47.below (Nat.le_refl _)) HB.out
                simp only [Hp.v] at c
                go_simp
                refine c.mono ?_
                rintro e V49 ⟨y, rfl, hpy, hoy, hb49⟩
                have HPY : Hid (y.p = ((lookP b.p).o, (lookP b.p).r, (lookP b.p).w, (lookP b.p).d)) := hpy
                have ex49 : OwnX V49 y := ⟨_, hoy⟩
                clear hpy hoy c
                go_wp2_with fail
                have kk49 := kk47.step hb49
                have sz49 : W0.heap.size ≤ V49.heap.size := Nat.le_trans sz47 hb49.size
                have hx_49 := OwnX.step ex47 hb49
                have h5_49 := Blk.step h5_47 hb49
                have h6_49 := Blk.step h6_47 hb49
                refine hK.out _ _ kk49.cells (fun _ => ?_)
                clear hK K
                try simp only [Act.put, List.getElem_toArray, List.getElem_cons_zero, List.getElem_cons_succ, List.setIfInBounds_toArray, List.set_cons_zero, List.set_cons_succ]
                obtain ⟨r0, r1, r2, r3⟩ := cells4'' h5_49
                obtain ⟨f0, f1, f2, f3⟩ := free4 h5_49
                have hne : (W0).heap.size ≠ (V33).heap.size := (Nat.ne_of_lt lt45)
                obtain ⟨bx, hkx, h6x, h5x, hKx, hxx, hyx⟩ := store_one h5_49 h6_49 hne kk49 (by exact (Nat.le_refl W0.heap.size)) hx_49 ex49 hw2s (.slice x.oa x.os.length x.ocap) (.slice x.ra x.rs.length x.rcap) (.slice x.wa x.ws.length x.wcap) (.slice x.da x.ds.length x.dcap)
                refine wpAnyH_ready (rs := [6]) (by kernel_rfl) (by simp) ?_
                refine AllReadyH.cons (o := _) rfl (fun K hK => ?_) AllReadyH.nil
                go_simp
                refine hK.out _ _ hKx.cells (fun _ => ?_)
                clear hK K
                obtain ⟨WX, hWX⟩ : ∃ WX, WX = ((((V49.setCell ⟨(W0).heap.size, 0, none⟩ (.slice x.oa x.os.length x.ocap)).setCell ⟨(W0).heap.size, 1, none⟩ (.slice x.ra x.rs.length x.rcap)).setCell ⟨(W0).heap.size, 2, none⟩ (.slice x.wa x.ws.length x.wcap)).setCell ⟨(W0).heap.size, 3, none⟩ (.slice x.da x.ds.length x.dcap)) := ⟨_, rfl⟩
                rw [← hWX] at hKx h5x h6x hxx hyx ⊢
                clear hWX r0 r1 r2 r3 f0 f1 f2 f3 hkx
                obtain ⟨r0, r1, r2, r3⟩ := cells4'' h6x
                obtain ⟨f0, f1, f2, f3⟩ := free4 h6x
                obtain ⟨by_, hky, h5y, h6y, hKy, hxy, hyy⟩ := store_one h6x h5x hne.symm hKx (by exact sz33) hxx hyx hw2s (.slice y.oa y.os.length y.ocap) (.slice y.ra y.rs.length y.rcap) (.slice y.wa y.ws.length y.wcap) (.slice y.da y.ds.length y.dcap)
                refine wpAnyH_ready (rs := [7]) (by kernel_rfl) (by simp) ?_
                refine AllReadyH.cons (o := _) rfl (fun K hK => ?_) AllReadyH.nil
                go_simp
                refine hK.out _ _ hKy.cells (fun _ => ?_)
                clear hK K
                refine wpAnyH_done (by kernel_rfl) ?_ _
                go_wp2_with fail
                go_meet
                case rel => exact ⟨(W0).heap.size, (V33).heap.size, x, y, rfl, rfl, ⟨HPX, HPY, h5y, h6y, hxy, hyy, hKy.below⟩⟩
        case am0 =>
          have hb51 : Below (W0).heap.size (W0) ((W0).alloc (Obj.cells #[Value.slice none 0 0, Value.slice none 0 0, Value.slice none 0 0, Value.slice none 0 0] 27)) := (Below.refl _ _).alloc (Nat.le_refl _) _
          have new51 := Blk.new (W0) [Value.slice none 0 0, Value.slice none 0 0, Value.slice none 0 0, Value.slice none 0 0] 27
          go_simp
          obtain ⟨V51, hW51⟩ : ∃ W, W = (W0).alloc (Obj.cells #[Value.slice none 0 0, Value.slice none 0 0, Value.slice none 0 0, Value.slice none 0 0] 27) := ⟨_, rfl⟩
          rw [← hW51] at hb51 ⊢
          replace new51 : Blk V51 (W0).heap.size [Value.slice none 0 0, Value.slice none 0 0, Value.slice none 0 0, Value.slice none 0 0] 27 := by rw [hW51]; exact new51
          clear hW51
          have kk51 := hK2d.step hb51
          have sz51 : W0.heap.size ≤ V51.heap.size := Nat.le_trans (Nat.le_refl W0.heap.size) hb51.size
          refine hK.out _ _ kk51.cells (fun _ => ?_)
          clear hK K
          try simp only [Act.put, List.getElem_toArray, List.getElem_cons_zero, List.getElem_cons_succ, List.setIfInBounds_toArray, List.set_cons_zero, List.set_cons_succ]
          refine wpAnyH_ready (rs := [1, 4]) (by kernel_rfl) (by simp) ?_
          refine AllReadyH.cons (o := _) rfl (fun K hK => ?ca52) (AllReadyH.cons (o := _) rfl (fun K hK => ?al52) AllReadyH.nil)
          case ca52 =>
            have c := lookOf_any a (V51) (ha.below kk51.below (Nat.le_refl _)) HA.out
            simp only [Hp.v] at c
            go_simp
            refine c.mono ?_
            rintro e V53 ⟨x, rfl, hpx, hox, hb53⟩
            have HPX : Hid (x.p = ((lookP a.p).o, (lookP a.p).r, (lookP a.p).w, (lookP a.p).d)) := hpx
            have ex53 : OwnX V53 x := ⟨_, hox⟩
            clear hpx hox c
            go_wp2_with fail
            have kk53 := kk51.step hb53
            have sz53 : W0.heap.size ≤ V53.heap.size := Nat.le_trans sz51 hb53.size
            have h6_53 := Blk.step new51 hb53
            refine hK.out _ _ kk53.cells (fun _ => ?_)
            clear hK K
            try simp only [Act.put, List.getElem_toArray, List.getElem_cons_zero, List.getElem_cons_succ, List.setIfInBounds_toArray, List.set_cons_zero, List.set_cons_succ]
            refine wpAnyH_ready (rs := [3, 4]) (by kernel_rfl) (by simp) ?_
            refine AllReadyH.cons (o := _) rfl (fun K hK => ?cb54) (AllReadyH.cons (o := _) rfl (fun K hK => ?al54) AllReadyH.nil)
            case cb54 =>
              have c := lookOf_any b (V53) (hb.below kk53.below (Nat.le_refl _)) HB.out
              simp only [Hp.v] at c
              go_simp
              refine c.mono ?_
              rintro e V55 ⟨y, rfl, hpy, hoy, hb55⟩
              have HPY : Hid (y.p = ((lookP b.p).o, (lookP b.p).r, (lookP b.p).w, (lookP b.p).d)) := hpy
              have ex55 : OwnX V55 y := ⟨_, hoy⟩
              clear hpy hoy c
              go_wp2_with fail
              have kk55 := kk53.step hb55
              have sz55 : W0.heap.size ≤ V55.heap.size := Nat.le_trans sz53 hb55.size
              have hx_55 := OwnX.step ex53 hb55
              have h6_55 := Blk.step h6_53 hb55
              refine hK.out _ _ kk55.cells (fun _ => ?_)
              clear hK K
              try simp only [Act.put, List.getElem_toArray, List.getElem_cons_zero, List.getElem_cons_succ, List.setIfInBounds_toArray, List.set_cons_zero, List.set_cons_succ]
              refine wpAnyH_ready (rs := [4]) (by kernel_rfl) (by simp) ?_
              refine AllReadyH.cons (o := _) rfl (fun K hK => ?al56) AllReadyH.nil
              case al56 =>
                have hb57 : Below (V55).heap.size (V55) ((V55).alloc (Obj.cells #[Value.slice none 0 0, Value.slice none 0 0, Value.slice none 0 0, Value.slice none 0 0] 27)) := (Below.refl _ _).alloc (Nat.le_refl _) _
                have new57 := Blk.new (V55) [Value.slice none 0 0, Value.slice none 0 0, Value.slice none 0 0, Value.slice none 0 0] 27
                go_simp
                obtain ⟨V57, hW57⟩ : ∃ W, W = (V55).alloc (Obj.cells #[Value.slice none 0 0, Value.slice none 0 0, Value.slice none 0 0, Value.slice none 0 0] 27) := ⟨_, rfl⟩
                rw [← hW57] at hb57 ⊢
                replace new57 : Blk V57 (V55).heap.size [Value.slice none 0 0, Value.slice none 0 0, Value.slice none 0 0, Value.slice none 0 0] 27 := by rw [hW57]; exact new57
                clear hW57
                have lt57 := h6_55.lt
                have kk57 := kk55.step hb57
                have sz57 : W0.heap.size ≤ V57.heap.size := Nat.le_trans sz55 hb57.size
                have hx_57 := OwnX.step hx_55 hb57
                have hy_57 := OwnX.step ex55 hb57
                have h6_57 := Blk.step h6_55 hb57
                refine hK.out _ _ kk57.cells (fun _ => ?_)
                clear hK K
                try simp only [Act.put, List.getElem_toArray, List.getElem_cons_zero, List.getElem_cons_succ, List.setIfInBounds_toArray, List.set_cons_zero, List.set_cons_succ]
                obtain ⟨r0, r1, r2, r3⟩ := cells4'' new57
                obtain ⟨f0, f1, f2, f3⟩ := free4 new57
                have hne : (V55).heap.size ≠ (W0).heap.size := (Nat.ne_of_gt lt57)
                obtain ⟨bx, hkx, h6x, h5x, hKx, hxx, hyx⟩ := store_one new57 h6_57 hne kk57 (by exact sz55) hx_57 hy_57 hw2s (.slice x.oa x.os.length x.ocap) (.slice x.ra x.rs.length x.rcap) (.slice x.wa x.ws.length x.wcap) (.slice x.da x.ds.length x.dcap)
                refine wpAnyH_ready (rs := [6]) (by kernel_rfl) (by simp) ?_
                refine AllReadyH.cons (o := _) rfl (fun K hK => ?_) AllReadyH.nil
                go_simp
                refine hK.out _ _ hKx.cells (fun _ => ?_)
                clear hK K
                obtain ⟨WX, hWX⟩ : ∃ WX, WX = ((((V57.setCell ⟨(V55).heap.size, 0, none⟩ (.slice x.oa x.os.length x.ocap)).setCell ⟨(V55).heap.size, 1, none⟩ (.slice x.ra x.rs.length x.rcap)).setCell ⟨(V55).heap.size, 2, none⟩ (.slice x.wa x.ws.length x.wcap)).setCell ⟨(V55).heap.size, 3, none⟩ (.slice x.da x.ds.length x.dcap)) := ⟨_, rfl⟩
                rw [← hWX] at hKx h5x h6x hxx hyx ⊢
                clear hWX r0 r1 r2 r3 f0 f1 f2 f3 hkx
                obtain ⟨r0, r1, r2, r3⟩ := cells4'' h6x
                obtain ⟨f0, f1, f2, f3⟩ := free4 h6x
                obtain ⟨by_, hky, h5y, h6y, hKy, hxy, hyy⟩ := store_one h6x h5x hne.symm hKx (by exact (Nat.le_refl W0.heap.size)) hxx hyx hw2s (.slice y.oa y.os.length y.ocap) (.slice y.ra y.rs.length y.rcap) (.slice y.wa y.ws.length y.wcap) (.slice y.da y.ds.length y.dcap)
                refine wpAnyH_ready (rs := [7]) (by kernel_rfl) (by simp) ?_
                refine AllReadyH.cons (o := _) rfl (fun K hK => ?_) AllReadyH.nil
                go_simp
                refine hK.out _ _ hKy.cells (fun _ => ?_)
                clear hK K
                refine wpAnyH_done (by kernel_rfl) ?_ _
                go_wp2_with fail
                go_meet
                case rel => exact ⟨(V55).heap.size, (W0).heap.size, x, y, rfl, rfl, ⟨HPX, HPY, h5y, h6y, hxy, hyy, hKy.below⟩⟩
            case al54 =>
              have hb59 : Below (V53).heap.size (V53) ((V53).alloc (Obj.cells #[Value.slice none 0 0, Value.slice none 0 0, Value.slice none 0 0, Value.slice none 0 0] 27)) := (Below.refl _ _).alloc (Nat.le_refl _) _
              have new59 := Blk.new (V53) [Value.slice none 0 0, Value.slice none 0 0, Value.slice none 0 0, Value.slice none 0 0] 27
              go_simp
              obtain ⟨V59, hW59⟩ : ∃ W, W = (V53).alloc (Obj.cells #[Value.slice none 0 0, Value.slice none 0 0, Value.slice none 0 0, Value.slice none 0 0] 27) := ⟨_, rfl⟩
              rw [← hW59] at hb59 ⊢
              replace new59 : Blk V59 (V53).heap.size [Value.slice none 0 0, Value.slice none 0 0, Value.slice none 0 0, Value.slice none 0 0] 27 := by rw [hW59]; exact new59
              clear hW59
              have lt59 := h6_53.lt
              have kk59 := kk53.step hb59
              have sz59 : W0.heap.size ≤ V59.heap.size := Nat.le_trans sz53 hb59.size
              have hx_59 := OwnX.step ex53 hb59
              have h6_59 := Blk.step h6_53 hb59
              refine hK.out _ _ kk59.cells (fun _ => ?_)
              clear hK K
              try simp only [Act.put, List.getElem_toArray, List.getElem_cons_zero, List.getElem_cons_succ, List.setIfInBounds_toArray, List.set_cons_zero, List.set_cons_succ]
              refine wpAnyH_ready (rs := [3]) (by kernel_rfl) (by simp) ?_
              refine AllReadyH.cons (o := _) rfl (fun K hK => ?cb60) AllReadyH.nil
              case cb60 =>
                have c := lookOf_any b (V59) (hb.below kk59.below (Nat.le_refl _)) HB.out
                simp only [Hp.v] at c
                go_simp
                refine c.mono ?_
                rintro e V61 ⟨y, rfl, hpy, hoy, hb61⟩
                have HPY : Hid (y.p = ((lookP b.p).o, (lookP b.p).r, (lookP b.p).w, (lookP b.p).d)) := hpy
                have ex61 : OwnX V61 y := ⟨_, hoy⟩
                clear hpy hoy c
                go_wp2_with fail
                have kk61 := kk59.step hb61
                have sz61 : W0.heap.size ≤ V61.heap.size := Nat.le_trans sz59 hb61.size
                have hx_61 := OwnX.step hx_59 hb61
                have h5_61 := Blk.step new59 hb61
                have h6_61 := Blk.step h6_59 hb61
                refine hK.out _ _ kk61.cells (fun _ => ?_)
                clear hK K
                try simp only [Act.put, List.getElem_toArray, List.getElem_cons_zero, List.getElem_cons_succ, List.setIfInBounds_toArray, List.set_cons_zero, List.set_cons_succ]
                obtain ⟨r0, r1, r2, r3⟩ := cells4'' h5_61
                obtain ⟨f0, f1, f2, f3⟩ := free4 h5_61
                have hne : (V53).heap.size ≠ (W0).heap.size := (Nat.ne_of_gt lt59)
                obtain ⟨bx, hkx, h6x, h5x, hKx, hxx, hyx⟩ := store_one h5_61 h6_61 hne kk61 (by exact sz53) hx_61 ex61 hw2s (.slice x.oa x.os.length x.ocap) (.slice x.ra x.rs.length x.rcap) (.slice x.wa x.ws.length x.wcap) (.slice x.da x.ds.length x.dcap)
                refine wpAnyH_ready (rs := [6]) (by kernel_rfl) (by simp) ?_
                refine AllReadyH.cons (o := _) rfl (fun K hK => ?_) AllReadyH.nil
                go_simp
                refine hK.out _ _ hKx.cells (fun _ => ?_)
                clear hK K
                obtain ⟨WX, hWX⟩ : ∃ WX, WX = ((((V61.setCell ⟨(V53).heap.size, 0, none⟩ (.slice x.oa x.os.length x.ocap)).setCell ⟨(V53).heap.size, 1, none⟩ (.slice x.ra x.rs.length x.rcap)).setCell ⟨(V53).heap.size, 2, none⟩ (.slice x.wa x.ws.length x.wcap)).setCell ⟨(V53).heap.size, 3, none⟩ (.slice x.da x.ds.length x.dcap)) := ⟨_, rfl⟩
                rw [← hWX] at hKx h5x h6x hxx hyx ⊢
                clear hWX r0 r1 r2 r3 f0 f1 f2 f3 hkx
                obtain ⟨r0, r1, r2, r3⟩ := cells4'' h6x
                obtain ⟨f0, f1, f2, f3⟩ := free4 h6x
                obtain ⟨by_, hky, h5y, h6y, hKy, hxy, hyy⟩ := store_one h6x h5x hne.symm hKx (by exact (Nat.le_refl W0.heap.size)) hxx hyx hw2s (.slice y.oa y.os.length y.ocap) (.slice y.ra y.rs.length y.rcap) (.slice y.wa y.ws.length y.wcap) (.slice y.da y.ds.length y.dcap)
                refine wpAnyH_ready (rs := [7]) (by kernel_rfl) (by simp) ?_
                refine AllReadyH.cons (o := _) rfl (fun K hK => ?_) AllReadyH.nil
                go_simp
                refine hK.out _ _ hKy.cells (fun _ => ?_)
                clear hK K
                refine wpAnyH_done (by kernel_rfl) ?_ _
                go_wp2_with fail
                go_meet
                case rel => exact ⟨(V53).heap.size, (W0).heap.size, x, y, rfl, rfl, ⟨HPX, HPY, h5y, h6y, hxy, hyy, hKy.below⟩⟩
          case al52 =>
            have hb63 : Below (V51).heap.size (V51) ((V51).alloc (Obj.cells #[Value.slice none 0 0, Value.slice none 0 0, Value.slice none 0 0, Value.slice none 0 0] 27)) := (Below.refl _ _).alloc (Nat.le_refl _) _
            have new63 := Blk.new (V51) [Value.slice none 0 0, Value.slice none 0 0, Value.slice none 0 0, Value.slice none 0 0] 27
            go_simp
            obtain ⟨V63, hW63⟩ : ∃ W, W = (V51).alloc (Obj.cells #[Value.slice none 0 0, Value.slice none 0 0, Value.slice none 0 0, Value.slice none 0 0] 27) := ⟨_, rfl⟩
            rw [← hW63] at hb63 ⊢
            replace new63 : Blk V63 (V51).heap.size [Value.slice none 0 0, Value.slice none 0 0, Value.slice none 0 0, Value.slice none 0 0] 27 := by rw [hW63]; exact new63
            clear hW63
            have lt63 := new51.lt
            have kk63 := kk51.step hb63
            have sz63 : W0.heap.size ≤ V63.heap.size := Nat.le_trans sz51 hb63.size
            have h6_63 := Blk.step new51 hb63
            refine hK.out _ _ kk63.cells (fun _ => ?_)
            clear hK K
            try simp only [Act.put, List.getElem_toArray, List.getElem_cons_zero, List.getElem_cons_succ, List.setIfInBounds_toArray, List.set_cons_zero, List.set_cons_succ]
            refine wpAnyH_ready (rs := [1]) (by kernel_rfl) (by simp) ?_
            refine AllReadyH.cons (o := _) rfl (fun K hK => ?ca64) AllReadyH.nil
            case ca64 =>
              have c := lookOf_any a (V63) (ha.below kk63.below (Nat.le_refl _)) HA.out
              simp only [Hp.v] at c
              go_simp
              refine c.mono ?_
              rintro e V65 ⟨x, rfl, hpx, hox, hb65⟩
              have HPX : Hid (x.p = ((lookP a.p).o, (lookP a.p).r, (lookP a.p).w, (lookP a.p).d)) := hpx
              have ex65 : OwnX V65 x := ⟨_, hox⟩
              clear hpx hox c
              go_wp2_with fail
              have kk65 := kk63.step hb65
              have sz65 : W0.heap.size ≤ V65.heap.size := Nat.le_trans sz63 hb65.size
              have h5_65 := Blk.step new63 hb65
              have h6_65 := Blk.step h6_63 hb65
              refine hK.out _ _ kk65.cells (fun _ => ?_)
              clear hK K
              try simp only [Act.put, List.getElem_toArray, List.getElem_cons_zero, List.getElem_cons_succ, List.setIfInBounds_toArray, List.set_cons_zero, List.set_cons_succ]
              refine wpAnyH_ready (rs := [3]) (by kernel_rfl) (by simp) ?_
              refine AllReadyH.cons (o := _) rfl (fun K hK => ?cb66) AllReadyH.nil
              case cb66 =>
                have c := lookOf_any b (V65) (hb.below kk65.below (Nat.le_refl _)) HB.out
                simp only [Hp.v] at c
                go_simp
                refine c.mono ?_
                rintro e V67 ⟨y, rfl, hpy, hoy, hb67⟩
                have HPY : Hid (y.p = ((lookP b.p).o, (lookP b.p).r, (lookP b.p).w, (lookP b.p).d)) := hpy
                have ex67 : OwnX V67 y := ⟨_, hoy⟩
                clear hpy hoy c
                go_wp2_with fail
                have kk67 := kk65.step hb67
                have sz67 : W0.heap.size ≤ V67.heap.size := Nat.le_trans sz65 hb67.size
                have hx_67 := OwnX.step ex65 hb67
                have h5_67 := Blk.step h5_65 hb67
                have h6_67 := Blk.step h6_65 hb67
                refine hK.out _ _ kk67.cells (fun _ => ?_)
                clear hK K
                try simp only [Act.put, List.getElem_toArray, List.getElem_cons_zero, List.getElem_cons_succ, List.setIfInBounds_toArray, List.set_cons_zero, List.set_cons_succ]
                obtain ⟨r0, r1, r2, r3⟩ := cells4'' h5_67
                obtain ⟨f0, f1, f2, f3⟩ := free4 h5_67
                have hne : (V51).heap.size ≠ (W0).heap.size := (Nat.ne_of_gt lt63)
                obtain ⟨bx, hkx, h6x, h5x, hKx, hxx, hyx⟩ := store_one h5_67 h6_67 hne kk67 (by exact sz51) hx_67 ex67 hw2s (.slice x.oa x.os.length x.ocap) (.slice x.ra x.rs.length x.rcap) (.slice x.wa x.ws.length x.wcap) (.slice x.da x.ds.length x.dcap)
                refine wpAnyH_ready (rs := [6]) (by kernel_rfl) (by simp) ?_
                refine AllReadyH.cons (o := _) rfl (fun K hK => ?_) AllReadyH.nil
                go_simp
                refine hK.out _ _ hKx.cells (fun _ => ?_)
                clear hK K
                obtain ⟨WX, hWX⟩ : ∃ WX, WX = ((((V67.setCell ⟨(V51).heap.size, 0, none⟩ (.slice x.oa x.os.length x.ocap)).setCell ⟨(V51).heap.size, 1, none⟩ (.slice x.ra x.rs.length x.rcap)).setCell ⟨(V51).heap.size, 2, none⟩ (.slice x.wa x.ws.length x.wcap)).setCell ⟨(V51).heap.size, 3, none⟩ (.slice x.da x.ds.length x.dcap)) := ⟨_, rfl⟩
                rw [← hWX] at hKx h5x h6x hxx hyx ⊢
                clear hWX r0 r1 r2 r3 f0 f1 f2 f3 hkx
                obtain ⟨r0, r1, r2, r3⟩ := cells4'' h6x
                obtain ⟨f0, f1, f2, f3⟩ := free4 h6x
                obtain ⟨by_, hky, h5y, h6y, hKy, hxy, hyy⟩ := store_one h6x h5x hne.symm hKx (by exact (Nat.le_refl W0.heap.size)) hxx hyx hw2s (.slice y.oa y.os.length y.ocap) (.slice y.ra y.rs.length y.rcap) (.slice y.wa y.ws.length y.wcap) (.slice y.da y.ds.length y.dcap)
                refine wpAnyH_ready (rs := [7]) (by kernel_rfl) (by simp) ?_
                refine AllReadyH.cons (o := _) rfl (fun K hK => ?_) AllReadyH.nil
                go_simp
                refine hK.out _ _ hKy.cells (fun _ => ?_)
                clear hK K
                refine wpAnyH_done (by kernel_rfl) ?_ _
                go_wp2_with fail
                go_meet
                case rel => exact ⟨(V51).heap.size, (W0).heap.size, x, y, rfl, rfl, ⟨HPX, HPY, h5y, h6y, hxy, hyy, hKy.below⟩⟩
      case rest =>
        obtain ⟨B, C, x, y, rfl, rfl, hM⟩ := hcut
        have HS : Hid (SameP a.p b.p ↔ x.rs = y.rs ∧ x.os.map Ob.p = y.os.map Ob.p ∧ x.ws = y.ws ∧ x.ds = y.ds) := same_xy HA.out HB.out hM.px hM.py
        have hxl : x.os.length ≤ 1048576 := by
          have h1 := congrArg List.length (congrArg Prod.fst hM.px)
          have h2 := (reach_places HA.out ha.small ha.cap).len
          have h3 := (okP_parts HA.out).1
          simp only [Hp.p, lookP, List.length_map] at h1
          simp only [Hp.p] at h2
          omega
        obtain ⟨ex, ox⟩ := hM.ox
        obtain ⟨ey, oy⟩ := hM.oy
        have hIx := ox.isIn
        have hIy := oy.isIn
        have hbe := hM.be
        have lx := own_lens ox
        have ly := own_lens oy
        have hbx := hM.bx
        have hby := hM.by_
        obtain ⟨x0, x1, x2, x3⟩ := cells4' hbx
        obtain ⟨y0, y1, y2, y3⟩ := cells4' hby
        have c3 := equalInts_any x.ra y.ra x.rs.length y.rs.length x.rcap y.rcap x.rs y.rs wc rfl rfl hIx.sr hIy.sr lx.1 ly.1
        clear hM ox oy
        go_wp2_with fail
        refine c3.mono ?_
        rintro e w5 ⟨rfl, hb5⟩
        have hB5 := hbe.trans (hb5.mono hbe.size)
        clear c3
        by_cases hR : x.rs = y.rs
        · have hRd : decide (x.rs = y.rs) = true := by simpa using hR
          have HR : Hid (x.rs = y.rs) := hR
          clear hR x0 x1 x2 x3 y0 y1 y2 y3
          have hbx5 := hbx.step hb5
          have hby5 := hby.step hb5
          have hIx5 := hIx.below hb5 (Nat.le_refl _)
          have hIy5 := hIy.below hb5 (Nat.le_refl _)
          obtain ⟨x0, x1, x2, x3⟩ := cells4' hbx5
          obtain ⟨y0, y1, y2, y3⟩ := cells4' hby5
          have c4 := equalObjs_any x.oa y.oa x.ocap y.ocap x.os y.os w5 hIx5.so hIy5.so hxl lx.2.2.2 ly.2.2.2
          clear hbx hby hIx hIy hbe hb5
          go_wp2_with fail
          refine c4.mono ?_
          rintro e w6 ⟨r6, rfl, hr6, hb6⟩
          have HR6 : Hid (r6 = true ↔ x.os.map Ob.p = y.os.map Ob.p) := hr6
          have hB6 := hB5.trans (hb6.mono hB5.size)
          clear c4 hr6
          cases r6 with
          | false =>
            have HF : Hid (¬ SameP a.p b.p) := fun h => by
              have := HR6.out.2 (HS.out.1 h).2.1
              simp at this
            go_wp2
            go_ret
            exact ⟨_, rfl, by simp [HF.out], hB6⟩
          | true =>
            have HO : Hid (x.os.map Ob.p = y.os.map Ob.p) := HR6.out.1 rfl
            clear x0 x1 x2 x3 y0 y1 y2 y3
            have hbx6 := hbx5.step hb6
            have hby6 := hby5.step hb6
            have hIx6 := hIx5.below hb6 (Nat.le_refl _)
            have hIy6 := hIy5.below hb6 (Nat.le_refl _)
            obtain ⟨x0, x1, x2, x3⟩ := cells4' hbx6
            obtain ⟨y0, y1, y2, y3⟩ := cells4' hby6
            have c5 := equalWatches_any x.wa y.wa x.ws.length y.ws.length x.wcap y.wcap x.ws y.ws w6 rfl rfl hIx6.sw hIy6.sw lx.2.1 ly.2.1
            clear hbx5 hby5 hIx5 hIy5 hB5 hb6
            go_wp2_with fail
            refine c5.mono ?_
            rintro e w7 ⟨rfl, hb7⟩
            have hB7 := hB6.trans (hb7.mono hB6.size)
            clear c5
            by_cases hW : x.ws = y.ws
            · have hWd : decide (x.ws = y.ws) = true := by simpa using hW
              have HW : Hid (x.ws = y.ws) := hW
              clear hW x0 x1 x2 x3 y0 y1 y2 y3
              have hbx7 := hbx6.step hb7
              have hby7 := hby6.step hb7
              have hIx7 := hIx6.below hb7 (Nat.le_refl _)
              have hIy7 := hIy6.below hb7 (Nat.le_refl _)
              obtain ⟨x0, x1, x2, x3⟩ := cells4' hbx7
              obtain ⟨y0, y1, y2, y3⟩ := cells4' hby7
              have c6 := equalWatches_any x.da y.da x.ds.length y.ds.length x.dcap y.dcap x.ds y.ds w7 rfl rfl hIx7.sd hIy7.sd lx.2.2.1 ly.2.2.1
              clear hbx6 hby6 hIx6 hIy6 hB6 hb7
              go_wp2_with fail
              refine c6.mono ?_
              rintro e w8 ⟨rfl, hb8⟩
              have hB8 := hB7.trans (hb8.mono hB7.size)
              have HE : Hid (decide (x.ds = y.ds) = true ↔ SameP a.p b.p) := by
                show _ ↔ _
                rw [HS.out, decide_eq_true_eq]
                exact ⟨fun h => ⟨HR.out, HO.out, HW.out, h⟩, fun h => h.2.2.2⟩
              clear c6
              go_wp2
              go_ret
              exact ⟨_, rfl, HE.out, hB8⟩
            · have hWd : decide (x.ws = y.ws) = false := by simpa using hW
              have HF : Hid (¬ SameP a.p b.p) := fun h => hW (HS.out.1 h).2.2.1
              clear hW
              go_wp2
              go_ret
              exact ⟨_, rfl, by simp [HF.out], hB7⟩
        · have hRd : decide (x.rs = y.rs) = false := by simpa using hR
          have HF : Hid (¬ SameP a.p b.p) := fun h => hR (HS.out.1 h).1
          clear hR
          go_wp2
          go_ret
          exact ⟨_, rfl, by simp [HF.out], hB5⟩
end Go.Proofs.Ytcpnkpogebjieaa
