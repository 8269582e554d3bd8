/- The program's own lookOf: how an ok heap looks. -/
import Derived.Test.YtcpnkpogebjieaaPb
import Derived.Test.YtcpnkpogebjieaaSs4
namespace Go.Proofs.Ytcpnkpogebjieaa
open Go.RowKit

/-- The objects at these places. -/
def pick (os : List Ob) (X : List Int) : List Ob := X.map fun p => os.getD p.toNat Ob.zero
theorem pick_len (os : List Ob) (X : List Int) : (pick os X).length = X.length := by simp [pick]
theorem pick_get {os : List Ob} {X : List Int} {i : Nat} (hi : i < (pick os X).length) (hx : i < X.length) (hp : X[i].toNat < os.length) : (pick os X)[i] = os[X[i].toNat] := by
  simp [pick, List.getElem?_eq_getElem hp]
theorem pick_succ {os : List Ob} {X : List Int} {k : Nat} (hk : k < X.length) (hp : X[k].toNat < os.length) : pick os (X.take (k + 1)) = pick os (X.take k) ++ [os[X[k].toNat]] := by
  unfold pick
  rw [List.take_succ_eq_append_getElem hk, List.map_append]
  simp [List.getElem?_eq_getElem hp]
theorem pick_q {os : List Ob} {X Y : List Int} (hp : ∀ z ∈ X, 0 ≤ z ∧ z < os.length) : (pick os X).map (objQ Y) = X.map (objL (os.map Ob.p) Y) := by
  unfold pick
  rw [List.map_map]
  refine List.map_congr_left fun z hz => ?_
  have h := hp z hz
  have h1 : z.toNat < os.length := by omega
  rw [objL_at rfl h1]
  simp [objQ, List.getElem?_eq_getElem h1]

theorem okP_refs {h : Hp} (hok : okP h.p = true) (i : Nat) (hi : i < h.os.length) : ∀ z ∈ h.os[i].r, -1 ≤ z ∧ z < h.os.length := by
  have h1 := (okP_parts hok).2.2.2.1 i hi
  simp only [objOk, Bool.and_eq_true] at h1
  exact refs_lt h1.1
theorem okP_watch {h : Hp} {l : List (Int × Int)} (hl : ∀ p ∈ l, watchOk (h.os.map Ob.p) p = true) : ∀ p ∈ l, (0 ≤ p.1 ∧ p.1 < (h.os.length : Int)) ∧ (0 ≤ p.2 ∧ p.2 < (h.os.length : Int)) := fun p hp => by
  have h1 := hl p hp
  simp only [watchOk, inB, Bool.and_eq_true, decide_eq_true_eq, List.length_map] at h1
  omega

set_option maxHeartbeats 3000000 in
set_option maxRecDepth 100000 in
theorem lookOf_any (h : Hp) (w : World) (hf : Fit w h) (hok : okP h.p = true) :
    Calls Try.prog 50 #[h.v] w fun e w' => ∃ h' : Hp, e = .returned h'.v ∧ h'.p = ((lookP h.p).o, (lookP h.p).r, (lookP h.p).w, (lookP h.p).d) ∧ OwnP w' w.heap.size h' ∧ Below w.heap.size w w' := by
  have hpl := reach_places hok hf.small hf.cap
  have hn60 := (okP_parts hok).1
  have hro := refs_lt (okP_parts hok).2.2.2.2.1
  have hwo := okP_watch (h := h) (okP_parts hok).2.2.2.2.2.1
  have hdo := okP_watch (h := h) (okP_parts hok).2.2.2.2.2.2
  have hrf := okP_refs hok
  have HLK : Hid (lookP h.p = ⟨(reachP h.p).map (objL (h.os.map Ob.p) (reachP h.p)), h.rs.map (wh (reachP h.p)), watL h.ws (reachP h.p), watL h.ds (reachP h.p)⟩) := rfl
  obtain ⟨i0, hi, hz0, hz1, hz2⟩ := info_parts info_obj
  have hB0 : Below w.heap.size w ((w.alloc (Obj.cells #[Value.slice h.oa h.os.length h.ocap, Value.slice h.ra h.rs.length h.rcap, Value.slice h.wa h.ws.length h.wcap, Value.slice h.da h.ds.length h.dcap] 27)).alloc (Obj.cells #[Value.slice none 0 0, Value.slice none 0 0, Value.slice none 0 0, Value.slice none 0 0] 27)) := ((Below.refl _ _).alloc (Nat.le_refl _) _).alloc (by simp) _
  have hK0 := (Blk.new w [Value.slice h.oa h.os.length h.ocap, Value.slice h.ra h.rs.length h.rcap, Value.slice h.wa h.ws.length h.wcap, Value.slice h.da h.ds.length h.dcap] 27).alloc (Obj.cells #[Value.slice none 0 0, Value.slice none 0 0, Value.slice none 0 0, Value.slice none 0 0] 27)
  have hR0 : Blk ((w.alloc (Obj.cells #[Value.slice h.oa h.os.length h.ocap, Value.slice h.ra h.rs.length h.rcap, Value.slice h.wa h.ws.length h.wcap, Value.slice h.da h.ds.length h.dcap] 27)).alloc (Obj.cells #[Value.slice none 0 0, Value.slice none 0 0, Value.slice none 0 0, Value.slice none 0 0] 27)) (w.heap.size + 1) [Value.slice none 0 0, Value.slice none 0 0, Value.slice none 0 0, Value.slice none 0 0] 27 := by
    have := Blk.new (w.alloc (Obj.cells #[Value.slice h.oa h.os.length h.ocap, Value.slice h.ra h.rs.length h.rcap, Value.slice h.wa h.ws.length h.wcap, Value.slice h.da h.ds.length h.dcap] 27)) [Value.slice none 0 0, Value.slice none 0 0, Value.slice none 0 0, Value.slice none 0 0] 27
    rw [World.size_alloc] at this
    exact this
  have c1 := implMemReach_any h _ (hf.isIn.below hB0 (Nat.le_refl _)) hf.small hf.txt hf.cap
  generalize reachP h.p = X at c1 hpl HLK
  have hXl := hpl.len
  clear hok
  go_enter Try.func50, Try.ntmps50
  simp only [Hp.v] at c1 ⊢
  go_wp2_with fail
  refine c1.mono ?_
  rintro e w1 ⟨xv, rfl, hox, hb1⟩
  obtain ⟨xa, xcap, rfl, sx, -⟩ := hox.form
  have hB1 := hB0.trans (hb1.mono hB0.size)
  have hK1 := hK0.below hb1 hK0.lt
  have hR1 := hR0.below hb1 hR0.lt
  clear c1 hb1 hB0 hK0 hR0 hox
  go_wp2
  go_loopw [4, 6, 11] (fun v _ i wr => ∃ k : Nat, k ≤ X.length ∧ i = .int .i64 k ∧ OwnB wr w1.heap.size v (pick h.os (X.take k)) ∧ Below w1.heap.size w1 wr) (fun _ _ i _ => X.length - (intOf i).toNat)
  case atStart => exact ⟨0, Nat.zero_le _, rfl, World.ownsRow_nil _ _ _ _, Below.refl _ _⟩
  case round =>
    obtain ⟨k, hk, rfl, hown, hb⟩ := hrel
    have hbs := hb.size
    have hKr := hK1.below hb hK1.lt
    have hbw := hB1.trans (hb.mono hB1.size)
    by_cases hlt : k < X.length
    · obtain ⟨b5, off5, rfl, hb5, e1⟩ := sx.get hlt
      have d0 := (hb.cell (p := ⟨b5, off5 + k, none⟩) hb5).trans e1
      obtain ⟨hz0', hz1'⟩ := hpl.rng X[k] (List.getElem_mem hlt)
      have hzl : X[k].toNat < h.os.length := by omega
      have HF : Hid (pick h.os (X.take (k + 1)) = pick h.os (X.take k) ++ [h.os[X[k].toNat]]) := pick_succ hlt hzl
      obtain ⟨b, off, eo, hbo, e2, e3, e4⟩ := hf.isIn.so.get hzl
      have d1 := (hbw.cell (p := ⟨b, off + X[k].toNat * 3, none⟩) hbo).trans e2
      have d2 := (hbw.cell (p := ⟨b, off + X[k].toNat * 3 + 1, none⟩) hbo).trans e3
      have d3 := (hbw.cell (p := ⟨b, off + X[k].toNat * 3 + 2, none⟩) hbo).trans e4
      have hll : (pick h.os (X.take k)).length ≤ k := by rw [pick_len, List.length_take]; omega
      obtain ⟨x0, x1, x2, x3⟩ := cells4' hKr
      clear hKr hbw hK1 hR1
      generalize h.oa = OA at eo x0 ⊢
      subst eo
      generalize h.os[X[k].toNat] = o at *
      generalize X[k] = z at *
      generalize hL : pick h.os (X.take k) = L at *
      have HL : Hid (pick h.os (X.take k) = L) := hL
      clear hL e1 e2 e3 e4
      obtain ⟨k0, t0, ra0, rc0, r0⟩ := o
      dsimp only at *
      obtain ⟨va, vcap, rfl, -, -⟩ := hown.form
      have hvA : (wr.alloc (Obj.cells #[Value.int .i64 k0, Value.string t0, Value.slice ra0 r0.length rc0] 52)).ownsRow w1.heap.size 52 3 (.slice va L.length vcap) L.length (L.flatMap Ob.cs) := World.ownsRow.alloc hown _
      have HEND : Hid (∀ v' w2, w2.ownsRow w1.heap.size 52 3 v' (L.length + 1) (L.flatMap Ob.cs ++ [Value.int .i64 k0, Value.string t0, Value.slice ra0 r0.length rc0]) → (wr.alloc (Obj.cells #[Value.int .i64 k0, Value.string t0, Value.slice ra0 r0.length rc0] 52)).grownBy w2 (Value.slice va L.length vcap).ownBlock → OwnB w2 w1.heap.size v' (pick h.os (X.take (k + 1))) ∧ Below w1.heap.size w1 w2) := fun v' w2 ho hg => by
        have hA : Below wr.heap.size wr (wr.alloc (Obj.cells #[Value.int .i64 k0, Value.string t0, Value.slice ra0 r0.length rc0] 52)) := (Below.refl _ _).alloc (Nat.le_refl _) _
        refine ⟨?_, (hb.trans (hA.mono hb.size)).trans (gb_below hg (Nat.le_trans hb.size hA.size) (fun k' e => (hown.lt k' e).1))⟩
        rw [HF.out]
        unfold OwnB
        simpa [Ob.cs] using ho
      go_wp2_with (at_builtin; refine wpList_append_own_at _ rfl _ _ 23 rfl w1.heap.size 52 i0 _ 3 48 Try.underlying23 hi hz0 hz1 hz2 rfl (by decide) _ _ _ rfl hvA ⟨wr.heap.size, 0, none⟩ 1 1 [Value.int .i64 k0, Value.string t0, Value.slice ra0 r0.length rc0] rfl rfl (obj_new ⟨k0, t0, ra0, rc0, r0⟩ _) (Ob.one ⟨k0, t0, ra0, rc0, r0⟩) ?c3 ?c4 ?c5 ?_)
      case c3 => unfold maxLen; omega
      case c4 => omega
      case c5 => simp; omega
      intro v' w2 hown2 hgr _ _
      obtain ⟨ho3, hb3⟩ := HEND.out v' w2 hown2 hgr
      clear hown2 hgr hvA HEND
      go_wp2
      go_roundw
      case rel => exact ⟨k + 1, by omega, by go_num, ho3, hb3⟩
      case measure => simp [intOf]; omega
    · have ek : X.take k = X := List.take_of_length_le (by omega)
      rw [ek] at hown
      clear ek
      have hRr := hR1.below hb hR1.lt
      obtain ⟨va, vcap, rfl, -, hsO⟩ := hown.form
      have hgt : ∀ i (hi : i < (pick h.os X).length), ∃ j, ∃ hj : j < h.os.length, (pick h.os X)[i] = h.os[j] := fun i hi => by
        have hix : i < X.length := by rw [pick_len] at hi; exact hi
        obtain ⟨q0, q1⟩ := hpl.rng X[i] (List.getElem_mem hix)
        exact ⟨X[i].toNat, by omega, pick_get hi hix (by omega)⟩
      have hseg : SegO wr va (pick h.os X) := hsO fun i hi => by
        obtain ⟨j, hj, e⟩ := hgt i hi
        rw [e]; exact (hf.isIn.so.2 j hj).below hbw (Nat.le_refl _)
      have c1 := wheres_any h.os.length X xa xcap wr.drew hn60 (sx.below hb.drew (Nat.le_refl _)) hpl
      have hpl60 : (pick h.os X).length ≤ 1048576 := by rw [pick_len]; omega
      have hprl : ∀ i (hi : i < (pick h.os X).length), (pick h.os X)[i].r.length ≤ 1048576 := fun i hi => by
        obtain ⟨j, hj, e⟩ := hgt i hi
        rw [e]; exact hf.small.oo j hj
      have hpor : ∀ i (hi : i < (pick h.os X).length), ∀ z ∈ (pick h.os X)[i].r, -1 ≤ z ∧ z < (h.os.length : Int) := fun i hi => by
        obtain ⟨j, hj, e⟩ := hgt i hi
        rw [e]; exact hrf j hj
      have HQ : Hid ((pick h.os X).map (objQ X) = X.map (objL (h.os.map Ob.p) X)) := pick_q hpl.rng
      generalize pick h.os X = O at *
      have HC : Hid (∀ w2 g, Below wr.drew.heap.size wr.drew w2 → Blk w2 g ((whs X h.os.length).map (Value.int .i64)) 3 → _) := fun w2 g hb2 hK2 =>
        have hb2' : Below wr.heap.size wr w2 := ((Below.refl _ _).drew).trans hb2
        have hbw2 : Below w.heap.size w w2 := hbw.trans (hb2'.mono hbw.size)
        placedBy_any h va vcap O h.os.length X (some ⟨g, 0, none⟩) h.os.length w2 (hf.isIn.below hbw2 (Nat.le_refl _)) hf.small (hseg.below hb2' (Nat.le_refl _)) hpl60 hprl hpor hK2.segI hro hwo hdo
      have HS : Hid (∀ w2, Below wr.heap.size wr w2 → (w2.cell? ⟨w.heap.size, 0, none⟩ = some (.slice h.oa h.os.length h.ocap) ∧ w2.cell? ⟨w.heap.size, 1, none⟩ = some (.slice h.ra h.rs.length h.rcap) ∧ w2.cell? ⟨w.heap.size, 2, none⟩ = some (.slice h.wa h.ws.length h.wcap) ∧ w2.cell? ⟨w.heap.size, 3, none⟩ = some (.slice h.da h.ds.length h.dcap)) ∧ Blk w2 (w.heap.size + 1) [Value.slice none 0 0, Value.slice none 0 0, Value.slice none 0 0, Value.slice none 0 0] 27 ∧ Below w.heap.size w w2) := fun w2 hb2 => ⟨cells4' (hKr.below hb2 hKr.lt), hRr.below hb2 hRr.lt, hbw.trans (hb2.mono hbw.size)⟩
      obtain ⟨x0, x1, x2, x3⟩ := cells4' hKr
      have hdr : Below wr.heap.size wr wr.drew := (Below.refl _ _).drew
      have HDR : Hid (Below wr.heap.size wr wr.drew) := hdr
      clear hdr hKr hRr hb hown hsO hseg hgt hK1 hR1 hB1 sx
      simp only [Hp.v] at HC
      go_wp2_with fail
      go_region_held3 (fun w' => w'.cell? ⟨w.heap.size, 0, none⟩ = some (.slice h.oa h.os.length h.ocap) ∧ w'.cell? ⟨w.heap.size, 1, none⟩ = some (.slice h.ra h.rs.length h.rcap) ∧ w'.cell? ⟨w.heap.size, 2, none⟩ = some (.slice h.wa h.ws.length h.wcap) ∧ w'.cell? ⟨w.heap.size, 3, none⟩ = some (.slice h.da h.ds.length h.dcap)) (first | (refine ⟨?_, ?_, ?_, ?_⟩ <;> with_reducible assumption) | go_keep)
        (first
          | (go_at_call 77; refine c1.mono ?_; rintro e w2 ⟨g, rfl, hK2, hg2, hb2⟩; have hq2 := HDR.out.trans hb2; obtain ⟨⟨p0, p1, p2, p3⟩, -, hbw2⟩ := HS.out w2 hq2; have c2 := HC.out w2 g hb2 hK2)
          | (go_at_call 76; refine c2.mono ?_; rintro e w3 ⟨h', rfl, hp', ho', hb3⟩; have hq3 := hq2.trans (hb3.mono hq2.size); obtain ⟨⟨s0, s1, s2, s3⟩, hR3, hbw3⟩ := HS.out w3 hq3; obtain ⟨r0, r1, r2, r3⟩ := cells4'' hR3; have f0 := hR3.free 0; have f1 := hR3.free 1; have f2 := hR3.free 2; have f3 := hR3.free 3))
      all_goals
        obtain ⟨kq, bq⟩ := put4 hR3 (.slice h'.oa h'.os.length h'.ocap) (.slice h'.ra h'.rs.length h'.rcap) (.slice h'.wa h'.ws.length h'.wcap) (.slice h'.da h'.ds.length h'.dcap)
        have hOQ := (ho'.keep kq).base (C := w.heap.size) hbw2.size
        have hBQ := below4 hbw3 (C := w.heap.size + 1) (by omega) (.slice h'.oa h'.os.length h'.ocap) (.slice h'.ra h'.rs.length h'.rcap) (.slice h'.wa h'.ws.length h'.wcap) (.slice h'.da h'.ds.length h'.dcap)
        have HP : Hid (h'.p = (O.map (objQ X), h.rs.map (wh X), watL h.ws X, watL h.ds X)) := hp'
        obtain ⟨z0, z1, z2, z3⟩ := cells4'' bq
        clear kq bq ho' hp' c1 c2 HC HS
        go_wp2
        refine bodyPost_ret (v := .agg #[.slice h'.oa h'.os.length h'.ocap, .slice h'.ra h'.rs.length h'.rcap, .slice h'.wa h'.ws.length h'.wcap, .slice h'.da h'.ds.length h'.dcap]) ?_ rfl ⟨h', rfl, ?_, hOQ, hBQ⟩
        · simp [results, Try.results50, go_sem, z0, z1, z2, z3]
        · rw [HP.out, HQ.out, HLK.out]
end Go.Proofs.Ytcpnkpogebjieaa
