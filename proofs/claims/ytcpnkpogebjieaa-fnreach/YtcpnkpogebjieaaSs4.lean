/- The specification's own MemSame, whole. -/
import Derived.Test.YtcpnkpogebjieaaSs1ToSs3
namespace Go.Proofs.Ytcpnkpogebjieaa
open Go.RowKit

/-- Two heaps boxed at the call's beginning. -/
structure K2 (w W : World) (a b : Hp) : Prop where
  below : Below w.heap.size w W
  ba : Blk W w.heap.size a.cs 27
  bb : Blk W (w.heap.size + 1) b.cs 27
theorem K2.step {w W W' : World} {a b : Hp} (h : K2 w W a b) (hb : Below W.heap.size W W') : K2 w W' a b :=
  ⟨h.below.trans (hb.mono h.below.size), h.ba.below hb h.ba.lt, h.bb.below hb h.bb.lt⟩
theorem K2.start (w : World) (a b : Hp) : K2 w ((w.alloc (Obj.cells #[Value.slice a.oa a.os.length a.ocap, Value.slice a.ra a.rs.length a.rcap, Value.slice a.wa a.ws.length a.wcap, Value.slice a.da a.ds.length a.dcap] 27)).alloc (Obj.cells #[Value.slice b.oa b.os.length b.ocap, Value.slice b.ra b.rs.length b.rcap, Value.slice b.wa b.ws.length b.wcap, Value.slice b.da b.ds.length b.dcap] 27)) a b := by
  refine ⟨((Below.refl _ _).alloc (Nat.le_refl _) _).alloc (by simp) _, (Blk.new w a.cs _).alloc _, ?_⟩
  have := Blk.new (w.alloc (Obj.cells #[Value.slice a.oa a.os.length a.ocap, Value.slice a.ra a.rs.length a.rcap, Value.slice a.wa a.ws.length a.wcap, Value.slice a.da a.ds.length a.dcap] 27)) b.cs 27
  rw [World.size_alloc] at this
  exact this
theorem K2.cells {w W : World} {a b : Hp} (h : K2 w W a b) :
    (W.cell? ⟨w.heap.size, 0, none⟩ = some (.slice a.oa a.os.length a.ocap) ∧ W.cell? ⟨w.heap.size, 1, none⟩ = some (.slice a.ra a.rs.length a.rcap) ∧ W.cell? ⟨w.heap.size, 2, none⟩ = some (.slice a.wa a.ws.length a.wcap) ∧ W.cell? ⟨w.heap.size, 3, none⟩ = some (.slice a.da a.ds.length a.dcap)) ∧
    (W.cell? ⟨w.heap.size + 1, 0, none⟩ = some (.slice b.oa b.os.length b.ocap) ∧ W.cell? ⟨w.heap.size + 1, 1, none⟩ = some (.slice b.ra b.rs.length b.rcap) ∧ W.cell? ⟨w.heap.size + 1, 2, none⟩ = some (.slice b.wa b.ws.length b.wcap) ∧ W.cell? ⟨w.heap.size + 1, 3, none⟩ = some (.slice b.da b.ds.length b.dcap)) :=
  ⟨cells4' h.ba, cells4' h.bb⟩

theorem same_iff {a b : Hp} {X Y : List Int} (ha : okP a.p = true) (hb : okP b.p = true) (hX : reachP a.p = X) (hY : reachP b.p = Y) :
    SameP a.p b.p ↔ a.rs.map (wh X) = b.rs.map (wh Y) ∧ X.map (objL (a.os.map Ob.p) X) = Y.map (objL (b.os.map Ob.p) Y) ∧ watL a.ws X = watL b.ws Y ∧ watL a.ds X = watL b.ds Y := by
  unfold SameP lookP
  rw [hX, hY]
  constructor
  · rintro ⟨_, _, h⟩
    rw [Look.mk.injEq] at h
    exact ⟨h.2.1, h.1, h.2.2⟩
  · rintro ⟨h1, h2, h3⟩
    refine ⟨ha, hb, ?_⟩
    rw [Look.mk.injEq]
    exact ⟨h2, h1, h3⟩

/-- What a walk over two heaps asks of one. -/
structure Fit (w : World) (h : Hp) : Prop where
  isIn : HpIn w h
  small : Small h
  txt : ∀ i (hi : i < h.os.length), h.os[i].t.size ≤ maxLen
  cap : ∀ (i : Nat) (hi : i < h.os.length), h.os[i].r.length ≤ h.os[i].rcap
theorem Fit.below {w w' : World} {h : Hp} {B : Nat} (hf : Fit w h) (hb : Below B w w') (hB : w.heap.size ≤ B) : Fit w' h := ⟨hf.isIn.below hb hB, hf.small, hf.txt, hf.cap⟩

theorem take_if {P : Program} {ops : Array Oper} {Q : Exit → Act → World → Prop} {md : Region.Mode} {S : World → Prop} {i : Nat} {oi : Oper} {v : Value} {fuel : Nat} {listed : Array Bool} {a : Act} {w : World} (d : Nat) (hi : ops[i]? = some oi) (hd : oi.dst = some d)
    (hs : Region.noSelect ops = true) (hf : Region.free md ops listed i = true) (hr : (Region.ready md ops listed).contains i = true)
    (hQ : ∀ c a w, Q (.panic c) (a.put oi.dst v) w → Q (.panic c) a w) (hy : YieldsIf P ops S oi v a) (hS : S w)
    (h : wpAnyH P md ops Q S fuel (listed.setIfInBounds i true) { a with tmps := a.tmps.setIfInBounds d v } w) : wpAnyH P md ops Q S (fuel + 1) listed a w :=
  wpAnyH_take hi hs hf hr hQ hy hS (by rw [hd]; exact h)
theorem bstep {w4 W W2 : World} (h : Below w4.heap.size w4 W) (hb : Below W.heap.size W W2) : Below w4.heap.size w4 W2 := h.trans (hb.mono h.size)
theorem and5 {p q r s t : Prop} (h : p ∧ q ∧ r ∧ s ∧ t) : t := h.2.2.2.2
theorem full_step {w4 W W2 : World} {p q r s : Prop} (h : p ∧ q ∧ r ∧ s ∧ Below w4.heap.size w4 W) (hb : Below W.heap.size W W2) : Below w4.heap.size w4 W2 := h.2.2.2.2.trans (hb.mono h.2.2.2.2.size)

set_option maxHeartbeats 3200000 in
set_option maxRecDepth 100000 in
theorem specMemSame_any (a b : Hp) (w : World) (ha : Fit w a) (hb : Fit w b) :
    Calls Try.prog 22 #[a.v, b.v] w fun e w' => ∃ r : Bool, e = .returned (.bool r) ∧ (r = true ↔ SameP a.p b.p) ∧ Below w.heap.size w w' := by
  have hK := K2.start w a b
  have c1 := specMemOk_any a _ (ha.isIn.below hK.below (Nat.le_refl _)) ha.small ha.txt
  go_enter Try.func22, Try.ntmps22
  simp only [Hp.v] at c1 ⊢
  go_wp2_with fail
  refine c1.mono ?_
  rintro e w1 ⟨rfl, hb1⟩
  have hK1 := hK.step hb1
  clear c1 hb1 hK
  cases hoka : okP a.p with
  | false =>
    have HF : Hid (¬ SameP a.p b.p) := fun h => by have := h.1; rw [hoka] at this; simp at this
    clear hoka
    have hlt := hK1.bb.lt
    go_wp2
    go_ret
    exact ⟨_, rfl, by simp [HF.out], hK1.below⟩
  | true =>
    have HA : Hid (okP a.p = true) := hoka
    clear hoka
    have c2 := specMemOk_any b _ (hb.isIn.below hK1.below (Nat.le_refl _)) hb.small hb.txt
    simp only [Hp.v] at c2
    obtain ⟨⟨a0, a1, a2, a3⟩, b0, b1, b2, b3⟩ := hK1.cells
    go_wp2_with fail
    refine c2.mono ?_
    rintro e w2 ⟨rfl, hb2⟩
    have hK2 := hK1.step hb2
    clear c2 hb2 hK1 a0 a1 a2 a3 b0 b1 b2 b3
    obtain ⟨⟨a0, a1, a2, a3⟩, b0, b1, b2, b3⟩ := hK2.cells
    cases hokb : okP b.p with
    | false =>
      have HF : Hid (¬ SameP a.p b.p) := fun h => by have := h.2.1; rw [hokb] at this; simp at this
      clear hokb
      go_wp2
      go_ret
      exact ⟨_, rfl, by simp [HF.out], hK2.below⟩
    | true =>
      have HB : Hid (okP b.p = true) := hokb
      clear hokb
      by_cases hl : a.rs.length = b.rs.length
      · have hne : ((a.rs.length : Int) != (b.rs.length : Int)) = false := by simp [hl]
        have HL : Hid (a.rs.length = b.rs.length) := hl
        clear hl
        have hra := fun z hz => (refs_lt (okP_parts HA.out).2.2.2.2.1 z hz).2
        have hrb := fun z hz => (refs_lt (okP_parts HB.out).2.2.2.2.1 z hz).2
        have c3 := l2Reach_any a w2 (ha.isIn.below hK2.below (Nat.le_refl _)) ha.small (okP_tr HA.out ha.small ha.cap) hra
        simp only [Hp.v] at c3
        go_wp2_with fail
        refine c3.mono ?_
        rintro e w3 ⟨xv, rfl, hox, hpx, hb3⟩
        have hK3 := hK2.step hb3
        clear c3 hb3 hK2 a0 a1 a2 a3 b0 b1 b2 b3
        obtain ⟨⟨a0, a1, a2, a3⟩, b0, b1, b2, b3⟩ := hK3.cells
        have c4 := l2Reach_any b w3 (hb.isIn.below hK3.below (Nat.le_refl _)) hb.small (okP_tr HB.out hb.small hb.cap) hrb
        simp only [Hp.v] at c4
        clear hra hrb
        go_wp2_with fail
        refine c4.mono ?_
        rintro e w4 ⟨yv, rfl, hoy, hpy, hb4⟩
        have hK4 := hK3.step hb4
        have hox4 := hox.below hb4 (Nat.le_refl _)
        clear c4 hb4 hK3 a0 a1 a2 a3 b0 b1 b2 b3 hox
        have EX : reachP a.p = traceF (a.os.map Ob.p) a.ds 61 0 (putAll [] a.rs) := by
          simp only [reachP, HA.out, if_true]; rfl
        have EY : reachP b.p = traceF (b.os.map Ob.p) b.ds 61 0 (putAll [] b.rs) := by
          simp only [reachP, HB.out, if_true]; rfl
        generalize traceF (a.os.map Ob.p) a.ds 61 0 (putAll [] a.rs) = X at *
        generalize traceF (b.os.map Ob.p) b.ds 61 0 (putAll [] b.rs) = Y at *
        have HS : Hid (SameP a.p b.p ↔ a.rs.map (wh X) = b.rs.map (wh Y) ∧ X.map (objL (a.os.map Ob.p) X) = Y.map (objL (b.os.map Ob.p) Y) ∧ watL a.ws X = watL b.ws Y ∧ watL a.ds X = watL b.ds Y) := same_iff HA.out HB.out EX EY
        clear EX EY
        obtain ⟨xa, xcap, rfl, sx, -, -⟩ := hox4.form
        obtain ⟨ya, ycap, rfl, sy, -, -⟩ := hoy.form
        have hX60 : X.length ≤ 60 := Nat.le_trans hpx.len (okP_parts HA.out).1
        have hY60 : Y.length ≤ 60 := Nat.le_trans hpy.len (okP_parts HB.out).1
        have hr8 : a.rs.length ≤ 8 := (okP_parts HA.out).2.1
        clear hox4 hoy
        by_cases hxy : X.length = Y.length
        · have hne2 : ((X.length : Int) != (Y.length : Int)) = false := by simp [hxy]
          have HXY : Hid (X.length = Y.length) := hxy
          clear hxy
          go_wp2
          go_loopw [7] (fun i wr => ∃ k : Nat, k ≤ a.rs.length ∧ i = .int .i64 k ∧ (a.rs.map (wh X)).take k = (b.rs.map (wh Y)).take k ∧ Below w4.heap.size w4 wr) (fun i _ => a.rs.length - (intOf i).toNat)
          case atStart => exact ⟨0, Nat.zero_le _, rfl, rfl, Below.refl _ _⟩
          case round =>
            obtain ⟨k, hk, rfl, htk, hbr⟩ := hrel
            have HT : Hid ((a.rs.map (wh X)).take k = (b.rs.map (wh Y)).take k) := htk
            clear htk
            have hKr := hK4.step hbr
            obtain ⟨⟨a0, a1, a2, a3⟩, b0, b1, b2, b3⟩ := hKr.cells
            by_cases hlt : k < a.rs.length
            · have hk2 : k < b.rs.length := by have := HL.out; omega
              obtain ⟨p1, o1, q1, hp1, e1⟩ := ha.isIn.sr.get hlt
              obtain ⟨p2, o2, q2, hp2, e2⟩ := hb.isIn.sr.get hk2
              rw [q1] at a1
              rw [q2] at b1
              have d1 := (hKr.below.cell (p := ⟨p1, o1 + k, none⟩) hp1).trans e1
              have d2 := (hKr.below.cell (p := ⟨p2, o2 + k, none⟩) hp2).trans e2
              have hi1 : (k : Int) < (a.rs.length : Int) := by omega
              have hi2 : (k : Int) < (b.rs.length : Int) := by omega
              have sxr : ∀ m, SegI (wr.drewN m) xa X := fun m => sx.below (bdrewN hbr m) (Nat.le_refl _)
              have syr : ∀ m, SegI (wr.drewN m) ya Y := fun m => sy.below (bdrewN hbr m) (Nat.le_refl _)
              have hXm : X.length ≤ maxLen := by unfold maxLen; omega
              have hYm : Y.length ≤ maxLen := by unfold maxLen; omega
              clear e1 e2 q1 q2
              go_wp2_with fail
              go_quiet (first
                | (go_at_call_of 46 (Value.slice xa X.length xcap); refine Calls.quiet_of_same (l2Where_any xa _ xcap X a.rs[k] _ rfl hXm ?_); exact sxr _)
                | (go_at_call_of 46 (Value.slice ya Y.length ycap); refine Calls.quiet_of_same (l2Where_any ya _ ycap Y b.rs[k] _ rfl hYm ?_); exact syr _))
              have hkm1 : k < (a.rs.map (wh X)).length := by simpa using hlt
              have hkm2 : k < (b.rs.map (wh Y)).length := by simpa using hk2
              by_cases he : wh X a.rs[k] = wh Y b.rs[k]
              · have hne : (wh X a.rs[k] != wh Y b.rs[k]) = false := by simp [he]
                have HE : Hid (wh X a.rs[k] = wh Y b.rs[k]) := he
                clear he
                go_wp2
                go_roundw
                case rel => exact ⟨k + 1, by omega, by go_num, take_eq_succ HT.out hkm1 hkm2 (by simpa using HE.out), bdrewN hbr _⟩
                case measure => simp [intOf]; omega
              · have hne : (wh X a.rs[k] != wh Y b.rs[k]) = true := by simp [he]
                have HF : Hid (¬ SameP a.p b.p) := fun h => ne_at hkm1 hkm2 (by simpa using he) (HS.out.1 h).1
                clear he
                have hbe := hKr.below
                go_wp2
                go_ret
                exact ⟨_, rfl, by simp [HF.out], bdrewN hbe _⟩
            · have HR : Hid (a.rs.map (wh X) = b.rs.map (wh Y)) := take_all HT.out (by rw [List.length_map]; omega) (by rw [List.length_map]; have := HL.out; omega)
              clear HT hKr
              go_wp2
              clear a0 a1 a2 a3 b0 b1 b2 b3
              go_loopw [8] (fun i wr => ∃ k : Nat, k ≤ X.length ∧ i = .int .i64 k ∧ (X.map (objL (a.os.map Ob.p) X)).take k = (Y.map (objL (b.os.map Ob.p) Y)).take k ∧ Below w4.heap.size w4 wr) (fun i _ => X.length - (intOf i).toNat)
              case atStart => exact ⟨0, Nat.zero_le _, rfl, rfl, hbr⟩
              case round =>
                clear hbr hlt hk
                obtain ⟨k, hk, rfl, htk, hbr⟩ := hrel
                have HT : Hid ((X.map (objL (a.os.map Ob.p) X)).take k = (Y.map (objL (b.os.map Ob.p) Y)).take k) := htk
                clear htk
                have hKr := hK4.step hbr
                obtain ⟨⟨a0, a1, a2, a3⟩, b0, b1, b2, b3⟩ := hKr.cells
                by_cases hlt : k < X.length
                · have hk2 : k < Y.length := by have := HXY.out; omega
                  have hkm1 : k < (X.map (objL (a.os.map Ob.p) X)).length := by simpa using hlt
                  have hkm2 : k < (Y.map (objL (b.os.map Ob.p) Y)).length := by simpa using hk2
                  have hz1 := hpx.rng X[k] (List.getElem_mem hlt)
                  have hz2 := hpy.rng Y[k] (List.getElem_mem hk2)
                  have hn1 : X[k].toNat < a.os.length := by omega
                  have hn2 : Y[k].toNat < b.os.length := by omega
                  have HO1 : Hid ((X.map (objL (a.os.map Ob.p) X))[k] = (a.os[X[k].toNat].k, a.os[X[k].toNat].t, a.os[X[k].toNat].r.map (wh X))) := by
                    show _ = _
                    rw [List.getElem_map, objL_at rfl hn1]
                  have HO2 : Hid ((Y.map (objL (b.os.map Ob.p) Y))[k] = (b.os[Y[k].toNat].k, b.os[Y[k].toNat].t, b.os[Y[k].toNat].r.map (wh Y))) := by
                    show _ = _
                    rw [List.getElem_map, objL_at rfl hn2]
                  obtain ⟨px, ox, qx, hpx', ex⟩ := sx.get hlt
                  obtain ⟨py, oy, qy, hpy', ey⟩ := sy.get hk2
                  obtain ⟨p1, o1, q1, hp1, e1, e2, e3⟩ := ha.isIn.so.get hn1
                  obtain ⟨p2, o2, q2, hp2, f1, f2, f3⟩ := hb.isIn.so.get hn2
                  have sxr : SegI wr.drew xa X := sx.below hbr.drew (Nat.le_refl _)
                  have syr : SegI wr.drew ya Y := sy.below hbr.drew (Nat.le_refl _)
                  have hXm : X.length ≤ maxLen := by unfold maxLen; omega
                  have hYm : Y.length ≤ maxLen := by unfold maxLen; omega
                  have hrl1 : a.os[X[k].toNat].r.length ≤ maxLen := by have := ha.small.oo _ hn1; unfold maxLen; omega
                  have hrl2 : b.os[Y[k].toNat].r.length ≤ maxLen := by have := hb.small.oo _ hn2; unfold maxLen; omega
                  have cA := l2Alike_any a.os[X[k].toNat] b.os[Y[k].toNat] xa ya xcap ycap X Y wr.drew ((ha.isIn.so.2 _ hn1).below hKr.below.drew (Nat.le_refl _)) ((hb.isIn.so.2 _ hn2).below hKr.below.drew (Nat.le_refl _)) sxr syr hXm hYm hrl1 hrl2
                  rw [q1] at a0
                  rw [q2] at b0
                  subst qx
                  subst qy
                  have g1 := (hKr.below.cell (p := ⟨p1, o1 + X[k].toNat * 3, none⟩) hp1).trans e1
                  have g2 := (hKr.below.cell (p := ⟨p1, o1 + X[k].toNat * 3 + 1, none⟩) hp1).trans e2
                  have g3 := (hKr.below.cell (p := ⟨p1, o1 + X[k].toNat * 3 + 2, none⟩) hp1).trans e3
                  have g4 := (hKr.below.cell (p := ⟨p2, o2 + Y[k].toNat * 3, none⟩) hp2).trans f1
                  have g5 := (hKr.below.cell (p := ⟨p2, o2 + Y[k].toNat * 3 + 1, none⟩) hp2).trans f2
                  have g6 := (hKr.below.cell (p := ⟨p2, o2 + Y[k].toNat * 3 + 2, none⟩) hp2).trans f3
                  have g7 := (hbr.cell (p := ⟨px, ox + k, none⟩) hpx').trans ex
                  have g8 := (hbr.cell (p := ⟨py, oy + k, none⟩) hpy').trans ey
                  have hi1 : (k : Int) < (X.length : Int) := by omega
                  have hi2 : (k : Int) < (Y.length : Int) := by omega
                  obtain ⟨hz10, hz11⟩ := hz1
                  obtain ⟨hz20, hz21⟩ := hz2
                  have hws := hKr.below.size
                  have hw4 := hbr.size
                  have HSS : Hid (∀ W, Below wr.heap.size wr.drew W →
                      (W.cell? ⟨w.heap.size, 0, none⟩ = some (.slice (some ⟨p1, o1, none⟩) a.os.length a.ocap) ∧ W.cell? ⟨w.heap.size + 1, 0, none⟩ = some (.slice (some ⟨p2, o2, none⟩) b.os.length b.ocap) ∧ W.cell? ⟨px, ox + k, none⟩ = some (.int .i64 X[k]) ∧ W.cell? ⟨py, oy + k, none⟩ = some (.int .i64 Y[k]) ∧
                      W.cell? ⟨p1, o1 + X[k].toNat * 3, none⟩ = some (.int .i64 a.os[X[k].toNat].k) ∧ W.cell? ⟨p1, o1 + X[k].toNat * 3 + 1, none⟩ = some (.string a.os[X[k].toNat].t) ∧ W.cell? ⟨p1, o1 + X[k].toNat * 3 + 2, none⟩ = some (.slice a.os[X[k].toNat].ra a.os[X[k].toNat].r.length a.os[X[k].toNat].rcap) ∧
                      W.cell? ⟨p2, o2 + Y[k].toNat * 3, none⟩ = some (.int .i64 b.os[Y[k].toNat].k) ∧ W.cell? ⟨p2, o2 + Y[k].toNat * 3 + 1, none⟩ = some (.string b.os[Y[k].toNat].t) ∧ W.cell? ⟨p2, o2 + Y[k].toNat * 3 + 2, none⟩ = some (.slice b.os[Y[k].toNat].ra b.os[Y[k].toNat].r.length b.os[Y[k].toNat].rcap)) ∧ Below w4.heap.size w4 W) := fun W hW => by
                    have h0 := hKr.ba.lt
                    have h1 := hKr.bb.lt
                    have hl1 : p1 < wr.heap.size := by omega
                    have hl2 : p2 < wr.heap.size := by omega
                    have hl3 : px < wr.heap.size := by omega
                    have hl4 : py < wr.heap.size := by omega
                    exact ⟨⟨(hW.cell (p := ⟨w.heap.size, 0, none⟩) h0).trans a0, (hW.cell (p := ⟨w.heap.size + 1, 0, none⟩) h1).trans b0, (hW.cell (p := ⟨px, ox + k, none⟩) hl3).trans g7, (hW.cell (p := ⟨py, oy + k, none⟩) hl4).trans g8,
                      (hW.cell (p := ⟨p1, _, none⟩) hl1).trans g1, (hW.cell (p := ⟨p1, _, none⟩) hl1).trans g2, (hW.cell (p := ⟨p1, _, none⟩) hl1).trans g3, (hW.cell (p := ⟨p2, _, none⟩) hl2).trans g4, (hW.cell (p := ⟨p2, _, none⟩) hl2).trans g5, (hW.cell (p := ⟨p2, _, none⟩) hl2).trans g6⟩, hbr.drew.trans (hW.mono hw4)⟩
                  obtain ⟨S0, -⟩ := HSS.out wr.drew (Below.refl _ _)
                  have hbK := hK4.below
                  clear ex ey e1 e2 e3 f1 f2 f3 q1 q2 sxr syr hrl1 hrl2 g1 g2 g3 g4 g5 g6 g7 g8 a0 a1 a2 a3 b0 b1 b2 b3 hKr
                  go_wp2_with fail
                  go_region_held3 (fun W => W.cell? ⟨w.heap.size, 0, none⟩ = some (.slice (some ⟨p1, o1, none⟩) a.os.length a.ocap) ∧ W.cell? ⟨w.heap.size + 1, 0, none⟩ = some (.slice (some ⟨p2, o2, none⟩) b.os.length b.ocap) ∧ W.cell? ⟨px, ox + k, none⟩ = some (.int .i64 X[k]) ∧ W.cell? ⟨py, oy + k, none⟩ = some (.int .i64 Y[k]) ∧
                      W.cell? ⟨p1, o1 + X[k].toNat * 3, none⟩ = some (.int .i64 a.os[X[k].toNat].k) ∧ W.cell? ⟨p1, o1 + X[k].toNat * 3 + 1, none⟩ = some (.string a.os[X[k].toNat].t) ∧ W.cell? ⟨p1, o1 + X[k].toNat * 3 + 2, none⟩ = some (.slice a.os[X[k].toNat].ra a.os[X[k].toNat].r.length a.os[X[k].toNat].rcap) ∧
                      W.cell? ⟨p2, o2 + Y[k].toNat * 3, none⟩ = some (.int .i64 b.os[Y[k].toNat].k) ∧ W.cell? ⟨p2, o2 + Y[k].toNat * 3 + 1, none⟩ = some (.string b.os[Y[k].toNat].t) ∧ W.cell? ⟨p2, o2 + Y[k].toNat * 3 + 2, none⟩ = some (.slice b.os[Y[k].toNat].ra b.os[Y[k].toNat].r.length b.os[Y[k].toNat].rcap)) (assumption)
                    (first
                      | (go_at_call 47; refine cA.mono ?_; rintro e w5 ⟨r, rfl, hr, hb5⟩; obtain ⟨S1, hb6⟩ := HSS.out w5 hb5))
                  all_goals
                    have HR5 : Hid (r = true ↔ (a.os[X[k].toNat].k, a.os[X[k].toNat].t, a.os[X[k].toNat].r.map (wh X)) = (b.os[Y[k].toNat].k, b.os[Y[k].toNat].t, b.os[Y[k].toNat].r.map (wh Y))) := hr
                    clear hr cA S0 HSS S1
                    cases r with
                    | false =>
                      have HF : Hid (¬ SameP a.p b.p) := fun h => by
                        have h1 := (HS.out.1 h).2.1
                        have h2 : (X.map (objL (a.os.map Ob.p) X))[k] ≠ (Y.map (objL (b.os.map Ob.p) Y))[k] := by
                          rw [HO1.out, HO2.out]
                          intro e
                          have := HR5.out.2 e
                          simp at this
                        exact ne_at hkm1 hkm2 h2 h1
                      have hbe := hbK.trans (hb6.mono hbK.size)
                      clear HO1 HO2
                      go_wp2
                      go_ret
                      exact ⟨_, rfl, by simp [HF.out], hbe⟩
                    | true =>
                      have HE : Hid ((X.map (objL (a.os.map Ob.p) X))[k] = (Y.map (objL (b.os.map Ob.p) Y))[k]) := by
                        show _ = _
                        rw [HO1.out, HO2.out]
                        exact HR5.out.1 rfl
                      clear HO1 HO2
                      go_wp2
                      go_roundw
                      case rel => exact ⟨k + 1, by omega, by go_num, take_eq_succ HT.out hkm1 hkm2 HE.out, hb6⟩
                      case measure => simp [intOf]; omega
                · have HOB : Hid (X.map (objL (a.os.map Ob.p) X) = Y.map (objL (b.os.map Ob.p) Y)) := take_all HT.out (by rw [List.length_map]; omega) (by rw [List.length_map]; have := HXY.out; omega)
                  have HFull : Hid (∀ W, Below w4.heap.size w4 W → (W.cell? ⟨w.heap.size, 2, none⟩ = some (.slice a.wa a.ws.length a.wcap) ∧ W.cell? ⟨w.heap.size + 1, 2, none⟩ = some (.slice b.wa b.ws.length b.wcap) ∧ W.cell? ⟨w.heap.size, 3, none⟩ = some (.slice a.da a.ds.length a.dcap) ∧ W.cell? ⟨w.heap.size + 1, 3, none⟩ = some (.slice b.da b.ds.length b.dcap) ∧ Below w4.heap.size w4 W)) := fun W hW => by
                    obtain ⟨⟨_, _, h2, h3⟩, _, _, h6, h7⟩ := (hK4.step hW).cells
                    exact ⟨h2, h6, h3, h7, hW⟩
                  have HA : Hid (∀ W, Below w4.heap.size w4 W → SegW W a.wa a.ws) := fun W hW => ha.isIn.sw.below (hK4.step hW).below (Nat.le_refl _)
                  have HB : Hid (∀ W, Below w4.heap.size w4 W → SegW W b.wa b.ws) := fun W hW => hb.isIn.sw.below (hK4.step hW).below (Nat.le_refl _)
                  have HC : Hid (∀ W, Below w4.heap.size w4 W → SegW W a.da a.ds) := fun W hW => ha.isIn.sd.below (hK4.step hW).below (Nat.le_refl _)
                  have HD : Hid (∀ W, Below w4.heap.size w4 W → SegW W b.da b.ds) := fun W hW => hb.isIn.sd.below (hK4.step hW).below (Nat.le_refl _)
                  have HXs : Hid (∀ W, Below w4.heap.size w4 W → SegI W xa X) := fun W hW => sx.below hW (Nat.le_refl _)
                  have HYs : Hid (∀ W, Below w4.heap.size w4 W → SegI W ya Y) := fun W hW => sy.below hW (Nat.le_refl _)
                  have hXm : X.length ≤ maxLen := by unfold maxLen; omega
                  have hYm : Y.length ≤ maxLen := by unfold maxLen; omega
                  have hlA : (watL a.ws X).length ≤ maxLen := by have := watL_len a.ws X; have := ha.small.w; unfold maxLen; omega
                  have hlB : (watL b.ws Y).length ≤ maxLen := by have := watL_len b.ws Y; have := hb.small.w; unfold maxLen; omega
                  have hlC : (watL a.ds X).length ≤ maxLen := by have := watL_len a.ds X; have := ha.small.d; unfold maxLen; omega
                  have hlD : (watL b.ds Y).length ≤ maxLen := by have := watL_len b.ds Y; have := hb.small.d; unfold maxLen; omega
                  have hbK := hK4.below
                  have hsw := ha.small
                  have hsb := hb.small
                  clear HT hKr a0 a1 a2 a3 b0 b1 b2 b3 sx sy hK4 hpx hpy HL HXY
                  by_cases hW : watL a.ws X = watL b.ws Y
                  · have hWd : decide (watL a.ws X = watL b.ws Y) = true := by simpa using hW
                    have HW : Hid (watL a.ws X = watL b.ws Y) := hW
                    clear hW
                    go_wp2_with fail
                    go_region_held3 (fun W => W.cell? ⟨w.heap.size, 2, none⟩ = some (.slice a.wa a.ws.length a.wcap) ∧ W.cell? ⟨w.heap.size + 1, 2, none⟩ = some (.slice b.wa b.ws.length b.wcap) ∧ W.cell? ⟨w.heap.size, 3, none⟩ = some (.slice a.da a.ds.length a.dcap) ∧ W.cell? ⟨w.heap.size + 1, 3, none⟩ = some (.slice b.da b.ds.length b.dcap) ∧ Below w4.heap.size w4 W) (first | exact HFull.out _ hbr.drew | exact HFull.out _ (full_step (by assumption) (by assumption)))
                    (first
                      | (go_at_call_of 49 (Value.slice a.wa a.ws.length a.wcap); refine (l2Watches_any a.wa a.wcap a.ws xa xcap X _ (HA.out _ (and5 (by assumption))) ha.small.w (HXs.out _ (and5 (by assumption))) hXm).mono ?_; rintro e wA ⟨vA, rfl, hoA, hbA⟩; obtain ⟨qA, cA, rfl, hsA, -, -⟩ := hoA.form)
                      | (go_at_call_of 49 (Value.slice b.wa b.ws.length b.wcap); refine (l2Watches_any b.wa b.wcap b.ws ya ycap Y _ (HB.out _ (and5 (by assumption))) hb.small.w (HYs.out _ (and5 (by assumption))) hYm).mono ?_; rintro e wB ⟨vB, rfl, hoB, hbB⟩; obtain ⟨qB, cB, rfl, hsB, -, -⟩ := hoB.form)
                      | (go_at_call_of 48 (Value.slice qA (watL a.ws X).length cA); refine (l2SameWatches_any qA qB _ _ cA cB (watL a.ws X) (watL b.ws Y) _ rfl rfl (by first | exact hsA | exact hsA.below hbB (Nat.le_refl _)) (by first | exact hsB | exact hsB.below hbA (Nat.le_refl _)) hlA hlB).mono ?_; rintro e wE ⟨he, hbE⟩; rw [hWd] at he; subst he)
                      | (go_at_call_of 49 (Value.slice a.da a.ds.length a.dcap); refine (l2Watches_any a.da a.dcap a.ds xa xcap X _ (HC.out _ (and5 (by assumption))) ha.small.d (HXs.out _ (and5 (by assumption))) hXm).mono ?_; rintro e wC ⟨vC, rfl, hoC, hbC⟩; obtain ⟨qC, cC, rfl, hsC, -, -⟩ := hoC.form)
                      | (go_at_call_of 49 (Value.slice b.da b.ds.length b.dcap); refine (l2Watches_any b.da b.dcap b.ds ya ycap Y _ (HD.out _ (and5 (by assumption))) hb.small.d (HYs.out _ (and5 (by assumption))) hYm).mono ?_; rintro e wD ⟨vD, rfl, hoD, hbD⟩; obtain ⟨qD, cD, rfl, hsD, -, -⟩ := hoD.form)
                      | (go_at_call_of 48 (Value.slice qC (watL a.ds X).length cC); refine (l2SameWatches_any qC qD _ _ cC cD (watL a.ds X) (watL b.ds Y) _ rfl rfl (by first | exact hsC | exact hsC.below hbD (Nat.le_refl _)) (by first | exact hsD | exact hsD.below hbC (Nat.le_refl _)) hlC hlD).mono ?_; rintro e wF ⟨rfl, hbF⟩))
                    all_goals
                      have hbE := hbK.trans ((and5 (by assumption) : Below w4.heap.size w4 _).mono hbK.size)
                      go_wp2
                      go_ret
                      exact ⟨_, rfl, by rw [HS.out]; simp [HR.out, HOB.out, HW.out], hbE⟩
                  · have hWd : decide (watL a.ws X = watL b.ws Y) = false := by simpa using hW
                    have HF : Hid (¬ SameP a.p b.p) := fun h => hW (HS.out.1 h).2.2.1
                    clear hW
                    go_wp2_with fail
                    refine wp_region_held_drew (S := (fun W => W.cell? ⟨w.heap.size, 2, none⟩ = some (.slice a.wa a.ws.length a.wcap) ∧ W.cell? ⟨w.heap.size + 1, 2, none⟩ = some (.slice b.wa b.ws.length b.wcap) ∧ W.cell? ⟨w.heap.size, 3, none⟩ = some (.slice a.da a.ds.length a.dcap) ∧ W.cell? ⟨w.heap.size + 1, 3, none⟩ = some (.slice b.da b.ds.length b.dcap) ∧ Below w4.heap.size w4 W)) (by kernel_rfl) (HFull.out _ hbr.drew) (fun hHeld => ?_)
                    refine take_if (i := 0) (v := ?_) 83 rfl rfl (by kernel_rfl) (by kernel_rfl) (by kernel_rfl) (fun _ _ _ h => h) (Or.inl ⟨by rfl, ?_⟩) hHeld ?_
                    rotate_left
                    · intro W hSw
                      try dsimp only at hSw
                      go_simp
                      try with_reducible rfl
                    simp only [List.setIfInBounds_toArray, List.set_cons_zero, List.set_cons_succ]
                    refine take_if (i := 1) (v := ?_) 84 rfl rfl (by kernel_rfl) (by kernel_rfl) (by kernel_rfl) (fun _ _ _ h => h) (Or.inl ⟨by rfl, ?_⟩) hHeld ?_
                    rotate_left
                    · intro W hSw
                      try dsimp only at hSw
                      go_simp
                      try with_reducible rfl
                    simp only [List.setIfInBounds_toArray, List.set_cons_zero, List.set_cons_succ]
                    refine take_if (i := 2) (v := ?_) 85 rfl rfl (by kernel_rfl) (by kernel_rfl) (by kernel_rfl) (fun _ _ _ h => h) (Or.inl ⟨by rfl, ?_⟩) hHeld ?_
                    rotate_left
                    · intro W hSw
                      try dsimp only at hSw
                      go_simp
                      try with_reducible rfl
                    simp only [List.setIfInBounds_toArray, List.set_cons_zero, List.set_cons_succ]
                    refine take_if (i := 4) (v := ?_) 87 rfl rfl (by kernel_rfl) (by kernel_rfl) (by kernel_rfl) (fun _ _ _ h => h) (Or.inl ⟨by rfl, ?_⟩) hHeld ?_
                    rotate_left
                    · intro W hSw
                      try dsimp only at hSw
                      go_simp
                      try with_reducible rfl
                    simp only [List.setIfInBounds_toArray, List.set_cons_zero, List.set_cons_succ]
                    refine take_if (i := 5) (v := ?_) 88 rfl rfl (by kernel_rfl) (by kernel_rfl) (by kernel_rfl) (fun _ _ _ h => h) (Or.inl ⟨by rfl, ?_⟩) hHeld ?_
                    rotate_left
                    · intro W hSw
                      try dsimp only at hSw
                      go_simp
                      try with_reducible rfl
                    simp only [List.setIfInBounds_toArray, List.set_cons_zero, List.set_cons_succ]
                    refine take_if (i := 6) (v := ?_) 89 rfl rfl (by kernel_rfl) (by kernel_rfl) (by kernel_rfl) (fun _ _ _ h => h) (Or.inl ⟨by rfl, ?_⟩) hHeld ?_
                    rotate_left
                    · intro W hSw
                      try dsimp only at hSw
                      go_simp
                      try with_reducible rfl
                    simp only [List.setIfInBounds_toArray, List.set_cons_zero, List.set_cons_succ]
                    refine wpAnyH_ready (rs := [3]) (by kernel_rfl) (by simp) ?_
                    refine AllReadyH.cons (o := _) rfl (fun K hK => ?_) AllReadyH.nil
                    go_simp
                    refine (l2Watches_any a.wa a.wcap a.ws xa xcap X _ (HA.out _ hHeld.2.2.2.2) ha.small.w (HXs.out _ hHeld.2.2.2.2) hXm).mono ?_
                    rintro e wA ⟨vA, rfl, hoA, hbA⟩
                    obtain ⟨qA, cA, rfl, hsA, -, -⟩ := hoA.form
                    refine hK.out _ _ (HFull.out _ (full_step hHeld hbA)) (fun hHeld1 => ?_)
                    clear hK
                    refine wpAnyH_ready (rs := [7]) (by kernel_rfl) (by simp) ?_
                    refine AllReadyH.cons (o := _) rfl (fun K hK => ?_) AllReadyH.nil
                    go_simp
                    refine (l2Watches_any b.wa b.wcap b.ws ya ycap Y _ (HB.out _ hHeld1.2.2.2.2) hb.small.w (HYs.out _ hHeld1.2.2.2.2) hYm).mono ?_
                    rintro e wB ⟨vB, rfl, hoB, hbB⟩
                    obtain ⟨qB, cB, rfl, hsB, -, -⟩ := hoB.form
                    refine hK.out _ _ (HFull.out _ (full_step hHeld1 hbB)) (fun hHeld2 => ?_)
                    clear hK
                    refine wpAnyH_ready (rs := [8]) (by kernel_rfl) (by simp) ?_
                    refine AllReadyH.cons (o := _) rfl (fun K hK => ?_) AllReadyH.nil
                    go_simp
                    refine (l2SameWatches_any qA qB _ _ cA cB (watL a.ws X) (watL b.ws Y) _ rfl rfl (hsA.below hbB (Nat.le_refl _)) (hsB) hlA hlB).mono ?_
                    rintro e wE ⟨he, hbE⟩
                    rw [hWd] at he
                    subst he
                    refine hK.out _ _ (HFull.out _ (full_step hHeld2 hbE)) (fun hHeld3 => ?_)
                    clear hK
                    refine take_if (i := 9) (v := ?_) 92 rfl rfl (by kernel_rfl) (by kernel_rfl) (by kernel_rfl) (fun _ _ _ h => h) (Or.inl ⟨by rfl, ?_⟩) hHeld3 ?_
                    rotate_left
                    · intro W hSw
                      try dsimp only at hSw
                      go_simp
                      try with_reducible rfl
                    simp only [List.setIfInBounds_toArray, List.set_cons_zero, List.set_cons_succ]
                    refine take_if (i := 10) (v := undef) 93 rfl rfl (by kernel_rfl) (by kernel_rfl) (by kernel_rfl) (fun _ _ _ h => h) (Or.inr ⟨by rfl, rfl⟩) hHeld3 ?_
                    simp only [List.setIfInBounds_toArray, List.set_cons_zero, List.set_cons_succ]
                    refine take_if (i := 11) (v := undef) 94 rfl rfl (by kernel_rfl) (by kernel_rfl) (by kernel_rfl) (fun _ _ _ h => h) (Or.inr ⟨by rfl, rfl⟩) hHeld3 ?_
                    simp only [List.setIfInBounds_toArray, List.set_cons_zero, List.set_cons_succ]
                    refine take_if (i := 12) (v := undef) 95 rfl rfl (by kernel_rfl) (by kernel_rfl) (by kernel_rfl) (fun _ _ _ h => h) (Or.inr ⟨by rfl, rfl⟩) hHeld3 ?_
                    simp only [List.setIfInBounds_toArray, List.set_cons_zero, List.set_cons_succ]
                    refine take_if (i := 13) (v := undef) 96 rfl rfl (by kernel_rfl) (by kernel_rfl) (by kernel_rfl) (fun _ _ _ h => h) (Or.inr ⟨by rfl, rfl⟩) hHeld3 ?_
                    simp only [List.setIfInBounds_toArray, List.set_cons_zero, List.set_cons_succ]
                    refine take_if (i := 14) (v := undef) 97 rfl rfl (by kernel_rfl) (by kernel_rfl) (by kernel_rfl) (fun _ _ _ h => h) (Or.inr ⟨by rfl, rfl⟩) hHeld3 ?_
                    simp only [List.setIfInBounds_toArray, List.set_cons_zero, List.set_cons_succ]
                    refine take_if (i := 15) (v := undef) 98 rfl rfl (by kernel_rfl) (by kernel_rfl) (by kernel_rfl) (fun _ _ _ h => h) (Or.inr ⟨by rfl, rfl⟩) hHeld3 ?_
                    simp only [List.setIfInBounds_toArray, List.set_cons_zero, List.set_cons_succ]
                    refine take_if (i := 16) (v := undef) 99 rfl rfl (by kernel_rfl) (by kernel_rfl) (by kernel_rfl) (fun _ _ _ h => h) (Or.inr ⟨by rfl, rfl⟩) hHeld3 ?_
                    simp only [List.setIfInBounds_toArray, List.set_cons_zero, List.set_cons_succ]
                    refine take_if (i := 17) (v := undef) 100 rfl rfl (by kernel_rfl) (by kernel_rfl) (by kernel_rfl) (fun _ _ _ h => h) (Or.inr ⟨by rfl, rfl⟩) hHeld3 ?_
                    simp only [List.setIfInBounds_toArray, List.set_cons_zero, List.set_cons_succ]
                    refine take_if (i := 18) (v := undef) 101 rfl rfl (by kernel_rfl) (by kernel_rfl) (by kernel_rfl) (fun _ _ _ h => h) (Or.inr ⟨by rfl, rfl⟩) hHeld3 ?_
                    simp only [List.setIfInBounds_toArray, List.set_cons_zero, List.set_cons_succ]
                    refine take_if (i := 19) (v := ?_) 102 rfl rfl (by kernel_rfl) (by kernel_rfl) (by kernel_rfl) (fun _ _ _ h => h) (Or.inl ⟨by rfl, ?_⟩) hHeld3 ?_
                    rotate_left
                    · intro W hSw
                      try dsimp only at hSw
                      go_simp
                      try with_reducible rfl
                    simp only [List.setIfInBounds_toArray, List.set_cons_zero, List.set_cons_succ]
                    refine take_if (i := 20) (v := ?_) 4 rfl rfl (by kernel_rfl) (by kernel_rfl) (by kernel_rfl) (fun _ _ _ h => h) (Or.inl ⟨by rfl, ?_⟩) hHeld3 ?_
                    rotate_left
                    · intro W hSw
                      try dsimp only at hSw
                      go_simp
                      try with_reducible rfl
                    simp only [List.setIfInBounds_toArray, List.set_cons_zero, List.set_cons_succ]
                    refine wpAnyH_done (by kernel_rfl) ?_ _
                    have hbX := bstep hbK hHeld3.2.2.2.2
                    go_wp2
                    go_ret
                    exact ⟨_, rfl, by simp [HF.out], hbX⟩
        · have hne2 : ((X.length : Int) != (Y.length : Int)) = true := by simp; omega
          have HF : Hid (¬ SameP a.p b.p) := fun h => hxy (map_eq_len (HS.out.1 h).2.1)
          clear hxy
          go_wp2
          go_ret
          exact ⟨_, rfl, by simp [HF.out], hK4.below⟩
      · have hne : ((a.rs.length : Int) != (b.rs.length : Int)) = true := by simp; omega
        have HF : Hid (¬ SameP a.p b.p) := fun h => by
          have := ((same_iff HA.out HB.out rfl rfl).1 h).1
          exact hl (map_eq_len this)
        go_wp2
        go_ret
        exact ⟨_, rfl, by simp [HF.out], hK2.below⟩
end Go.Proofs.Ytcpnkpogebjieaa
