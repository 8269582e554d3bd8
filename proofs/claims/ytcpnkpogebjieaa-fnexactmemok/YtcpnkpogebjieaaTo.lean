/- The laws' own copies of a heap: each lies in new memory and holds what was copied. -/
import Derived.Test.YtcpnkpogebjieaaBase
namespace Go.Proofs.Ytcpnkpogebjieaa
open Go.RowKit

set_option maxHeartbeats 400000 in
set_option maxRecDepth 100000 in
theorem toIntS_any (a : Option Addr) (n cap : Nat) (zs : List Int) (w : World) (hz : zs.length = n) (hn : n ≤ 1048576) (h : SegI w a zs) :
    Calls Try.prog 40 #[.slice a n cap] w fun e w' => e = .returned (.slice (some ⟨w.heap.size, 0, none⟩) n n) ∧ Below w.heap.size w w' ∧
      Blk w' w.heap.size (zs.map (Value.int .i64)) 3 := by
  obtain ⟨i0, hi, hz0, hz1, hz2⟩ := info_parts info_int
  go_enter Try.func40, Try.ntmps40
  go_wp2_with (at_make; refine wpList_make_full _ rfl _ _ 24 rfl w.heap.size 3 i0 (.int .i64 0) 1 Try.underlying24 hi hz0 hz1 .i64 .i64 _ _ n rfl rfl rfl rfl ?c1 ?c2 (Nat.le_refl _) ?_)
  case c1 => rw [hz2]; omega
  case c2 => unfold maxLen; omega
  intro w1 hown hgr
  have hb1 := below_made hgr
  have hk1 := blk_made hown
  rw [toList_madeCells_one] at hk1
  clear hown hgr
  go_wp2
  go_loopw [4] (fun i wr => ∃ k : Nat, k ≤ n ∧ i = .int .i64 k ∧ Below w.heap.size w wr ∧ Blk wr w.heap.size ((zs.take k).map (Value.int .i64) ++ List.replicate (zs.length - k) (.int .i64 0)) 3) (fun i _ => n - (intOf i).toNat)
  case atStart => exact ⟨0, Nat.zero_le _, rfl, hb1, by simpa [hz] using hk1⟩
  case round =>
    obtain ⟨k, hk, rfl, hb, hblk⟩ := hrel
    clear hb1 hk1
    by_cases hlt : k < n
    · have hkz : k < zs.length := by omega
      obtain ⟨b, off, rfl, hbw, hc⟩ := h.get hkz
      have hck : wr.cell? ⟨b, off + k, none⟩ = some (.int .i64 zs[k]) := (hb.cell (p := ⟨b, off + k, none⟩) hbw).trans hc
      have hfz := hblk.free k
      obtain ⟨v, hv⟩ : ∃ v, wr.cell? ⟨w.heap.size, k, none⟩ = some v := ⟨_, (hblk.cell k).trans (List.getElem?_eq_getElem (by simp; omega))⟩
      have hst := hblk.store k (.int .i64 zs[k])
      have hsb := hb.setCell (p := ⟨w.heap.size, k, none⟩) (Nat.le_refl _) (.int .i64 zs[k])
      rw [set_map (Value.int .i64) zs (.int .i64 0) k hkz] at hst
      have HS : Hid (Blk (wr.setCell ⟨w.heap.size, k, none⟩ (.int .i64 zs[k])) w.heap.size ((zs.take (k+1)).map (Value.int .i64) ++ List.replicate (zs.length - (k+1)) (.int .i64 0)) 3) := hst
      clear hst hblk
      go_wp2
      go_roundw
      case rel => exact ⟨k + 1, by omega, by go_num, hsb, HS.out⟩
      case measure => simp [intOf]; omega
    · go_wp2
      go_ret
      obtain rfl : k = n := by omega
      exact ⟨rfl, hb, by simpa [← hz] using hblk⟩
set_option maxHeartbeats 400000 in
set_option maxRecDepth 100000 in
theorem toMemObj_any (k : Int) (t : ByteArray) (a : Option Addr) (n cap : Nat) (zs : List Int) (w : World) (hz : zs.length = n) (hn : n ≤ 1048576) (h : SegI w a zs) :
    Calls Try.prog 70 #[.agg #[.int .i64 k, .string t, .slice a n cap]] w fun e w' => ∃ g, e = .returned (.agg #[.int .i64 k, .string t, .slice (some ⟨g, 0, none⟩) n n]) ∧ Below w.heap.size w w' ∧
      w.heap.size ≤ g ∧ Blk w' g (zs.map (Value.int .i64)) 3 := by
  go_enter Try.func70, Try.ntmps70
  go_wp2_with fail
  have hB0 : Below w.heap.size w (((w.alloc (Obj.cells #[Value.int IntKind.i64 k, Value.string t, Value.slice a n cap] 102)).alloc
          (Obj.cells #[Value.int IntKind.i64 0, Value.string { data := #[] }, Value.slice none 0 0] 52)).alloc
      (Obj.cells #[Value.int IntKind.i64 k, Value.string t, Value.slice none 0 0] 52)) := (((Below.refl _ _).alloc (Nat.le_refl _) _).alloc (by simp) _).alloc (by simp; omega) _
  refine (toIntS_any a n cap zs _ hz hn (h.below hB0 (Nat.le_refl _))).mono ?_
  rintro e w1 ⟨rfl, hb, hk⟩
  obtain ⟨hc, hf⟩ := bcell hb
  have hz1 := hb.size
  simp at hc hf hz1 hk hb
  go_wp2
  refine bodyPost_ret (v := .agg #[.int .i64 k, .string t, .slice (some ⟨w.heap.size + 1 + 1 + 1, 0, none⟩) n n]) ?_ rfl ⟨_, rfl, ?_, ?_, ?_⟩
  · simp [results, Try.results70, go_sem, hc]
  · (repeat refine Below.setCell ?_ (by dsimp only; omega) _)
    exact hB0.trans (hb.mono (by omega))
  · omega
  · (repeat refine Blk.other ?_ _ _ (by dsimp only; omega))
    exact hk

set_option maxHeartbeats 400000 in
set_option maxRecDepth 100000 in
theorem toMemWatch_any (x y : Int) (w : World) :
    Calls Try.prog 71 #[.agg #[.int .i64 x, .int .i64 y]] w fun e w' => e = .returned (.agg #[.int .i64 x, .int .i64 y]) ∧ Below w.heap.size w w' := by
  go_enter Try.func71, Try.ntmps71
  go_wp2
  refine bodyPost_ret (v := .agg #[.int .i64 x, .int .i64 y]) ?_ rfl ⟨rfl, ?_⟩
  · simp [results, Try.results71, go_sem]
  · exact (((Below.refl _ _).alloc (Nat.le_refl _) _).alloc (by simp) _).alloc (by simp; omega) _

theorem info_watch : (Try.prog.info? 77).map (fun i => (i.zero, i.size, i.bytes)) = some (some (.agg #[.int .i64 0, .int .i64 0]), 2, 16) := by kernel_rfl
theorem info_obj : (Try.prog.info? 52).map (fun i => (i.zero, i.size, i.bytes)) = some (some (.agg #[.int .i64 0, .string ⟨#[]⟩, .slice none 0 0]), 3, 48) := by kernel_rfl

set_option maxHeartbeats 400000 in
set_option maxRecDepth 100000 in
theorem toMemWatchS_any (a : Option Addr) (n cap : Nat) (ws : List (Int × Int)) (w : World) (hz : ws.length = n) (hn : n ≤ 1048576) (h : SegW w a ws) :
    Calls Try.prog 41 #[.slice a n cap] w fun e w' => e = .returned (.slice (some ⟨w.heap.size, 0, none⟩) n n) ∧ Below w.heap.size w w' ∧
      Blk w' w.heap.size (ws.flatMap wc) 77 := by
  obtain ⟨i0, hi, hz0, hz1, hz2⟩ := info_parts info_watch
  go_enter Try.func41, Try.ntmps41
  go_wp2_with (at_make; refine wpList_make_full _ rfl _ _ 25 rfl w.heap.size 77 i0 (.agg #[.int .i64 0, .int .i64 0]) 2 Try.underlying25 hi hz0 hz1 .i64 .i64 _ _ n rfl rfl rfl rfl ?c1 ?c2 (Nat.le_refl _) ?_)
  case c1 => rw [hz2]; omega
  case c2 => unfold maxLen; omega
  intro w1 hown hgr
  have hb1 := below_made hgr
  have hk1 := blk_made hown
  have em : (madeCells #[Value.int .i64 0, Value.int .i64 0] (n * 2)).toList = (List.replicate n ((0 : Int), (0 : Int))).flatMap wc := made_flat wc (0, 0) #[Value.int .i64 0, Value.int .i64 0] 2 (by omega) rfl (fun _ => rfl) n
  rw [em] at hk1
  clear hown hgr em
  go_wp2
  go_loopw [4] (fun i wr => ∃ k : Nat, k ≤ n ∧ i = .int .i64 k ∧ Below w.heap.size w wr ∧ Blk wr w.heap.size ((ws.take k ++ List.replicate (ws.length - k) ((0 : Int), (0 : Int))).flatMap wc) 77) (fun i _ => n - (intOf i).toNat)
  case atStart => exact ⟨0, Nat.zero_le _, rfl, hb1, by simpa [hz] using hk1⟩
  case round =>
    obtain ⟨k, hk, rfl, hb, hblk⟩ := hrel
    clear hb1 hk1
    by_cases hlt : k < n
    · have hkz : k < ws.length := by omega
      obtain ⟨b, off, rfl, hbw, c1, c2⟩ := h.get hkz
      have d1 := (hb.cell (p := ⟨b, off + k * 2, none⟩) hbw).trans c1
      have d2 := (hb.cell (p := ⟨b, off + k * 2 + 1, none⟩) hbw).trans c2
      clear c1 c2
      go_wp2_with fail
      refine (toMemWatch_any _ _ _).mono ?_
      rintro e w1 ⟨rfl, hb1⟩
      have hblk1 := hblk.below hb1 hblk.lt
      have hbb := hb.trans (hb1.mono hb.size)
      clear hb hb1 hblk d1 d2
      have f1 := hblk1.free (k * 2)
      have f2 := hblk1.free (k * 2 + 1)
      have hlen : ((ws.take k ++ List.replicate (ws.length - k) ((0 : Int), (0 : Int))).flatMap wc).length = n * 2 := by rw [flat_len wc 2 (fun _ => rfl)]; simp; omega
      obtain ⟨v1, hv1⟩ : ∃ v, w1.cell? ⟨w.heap.size, k * 2, none⟩ = some v := ⟨_, (hblk1.cell _).trans (List.getElem?_eq_getElem (by rw [hlen]; omega))⟩
      obtain ⟨v2, hv2⟩ : ∃ v, w1.cell? ⟨w.heap.size, k * 2 + 1, none⟩ = some v := ⟨_, (hblk1.cell _).trans (List.getElem?_eq_getElem (by rw [hlen]; omega))⟩
      have hst := (hblk1.store (k * 2) (.int .i64 ws[k].1)).store (k * 2 + 1) (.int .i64 ws[k].2)
      rw [set2, set_take ws (0, 0) k hkz] at hst
      have hsb := (hbb.setCell (p := ⟨w.heap.size, k * 2, none⟩) (Nat.le_refl _) (.int .i64 ws[k].1)).setCell (p := ⟨w.heap.size, k * 2 + 1, none⟩) (Nat.le_refl _) (.int .i64 ws[k].2)
      clear hblk1 hbb hlen
      go_wp2
      go_roundw
      case rel => exact ⟨k + 1, by omega, by go_num, hsb, hst⟩
      case measure => simp [intOf]; omega
    · go_wp2
      go_ret
      obtain rfl : k = n := by omega
      exact ⟨rfl, hb, by simpa [← hz] using hblk⟩

/-- Objects whose parts lie in blocks of their own, from block B on. -/
def OwnO (w : World) (B : Nat) (l : List Ob) : Prop := ∀ i (hi : i < l.length), ∃ g, l[i].ra = some ⟨g, 0, none⟩ ∧ B ≤ g ∧ l[i].rcap = l[i].r.length ∧ Blk w g (l[i].r.map (Value.int .i64)) 3

theorem OwnO.below {w w' : World} {B C : Nat} {l : List Ob} (h : OwnO w B l) (hb : Below C w w') (hC : w.heap.size ≤ C) : OwnO w' B l := fun i hi => by
  obtain ⟨g, h1, h2, h3, h4⟩ := h i hi
  exact ⟨g, h1, h2, h3, h4.below hb (Nat.lt_of_lt_of_le h4.lt hC)⟩

theorem OwnO.store {w : World} {B : Nat} {l : List Ob} (h : OwnO w B l) (p : Addr) (v : Value) (hp : p.block < B) : OwnO (w.setCell p v) B l := fun i hi => by
  obtain ⟨g, h1, h2, h3, h4⟩ := h i hi
  exact ⟨g, h1, h2, h3, h4.other p v (by omega)⟩

theorem OwnO.snoc {w : World} {B : Nat} {l : List Ob} (h : OwnO w B l) (o : Ob) (g : Nat) (h1 : o.ra = some ⟨g, 0, none⟩) (h2 : B ≤ g) (h3 : o.rcap = o.r.length) (h4 : Blk w g (o.r.map (Value.int .i64)) 3) : OwnO w B (l ++ [o]) := fun i hi => by
  by_cases hl : i < l.length
  · simpa [List.getElem_append_left hl] using h i hl
  · have e : i = l.length := by simp at hi; omega
    subst e
    simpa using ⟨g, h1, h2, h3, h4⟩

theorem OwnO.seg {w : World} {B : Nat} {l : List Ob} (h : OwnO w B l) (i : Nat) (hi : i < l.length) : SegI w l[i].ra l[i].r := by
  obtain ⟨g, h1, _, _, h4⟩ := h i hi
  rw [h1]
  exact h4.segI

theorem set_snoc {α : Type} (l : List α) (z o : α) (n : Nat) (h : l.length < n) : (l ++ List.replicate (n - l.length) z).set l.length o = (l ++ [o]) ++ List.replicate (n - (l ++ [o]).length) z := by
  obtain ⟨m, hm⟩ : ∃ m, n - l.length = m + 1 := ⟨n - l.length - 1, by omega⟩
  rw [hm, List.set_append, if_neg (by omega), Nat.sub_self, List.replicate_succ, List.set_cons_zero]
  simp [show n - (l.length + 1) = m by omega]

set_option maxHeartbeats 800000 in
set_option maxRecDepth 100000 in
theorem toMemObjS_any (a : Option Addr) (n cap : Nat) (os : List Ob) (w : World) (hz : os.length = n) (hn : n ≤ 1048576) (ho : ∀ i (hi : i < os.length), os[i].r.length ≤ 1048576) (h : SegO w a os) :
    Calls Try.prog 39 #[.slice a n cap] w fun e w' => ∃ l : List Ob, e = .returned (.slice (some ⟨w.heap.size, 0, none⟩) n n) ∧ l.map Ob.p = os.map Ob.p ∧ Below w.heap.size w w' ∧
      Blk w' w.heap.size (l.flatMap Ob.cs) 52 ∧ OwnO w' (w.heap.size + 1) l := by
  obtain ⟨i0, hi, hz0, hz1, hz2⟩ := info_parts info_obj
  go_enter Try.func39, Try.ntmps39
  go_wp2_with (at_make; refine wpList_make_full _ rfl _ _ 23 rfl w.heap.size 52 i0 (.agg #[.int .i64 0, .string ⟨#[]⟩, .slice none 0 0]) 3 Try.underlying23 hi hz0 hz1 .i64 .i64 _ _ n rfl rfl rfl rfl ?c1 ?c2 (Nat.le_refl _) ?_)
  case c1 => rw [hz2]; omega
  case c2 => unfold maxLen; omega
  intro w1 hown hgr
  have hb1 := below_made hgr
  have hk1 := blk_made hown
  have em : (madeCells #[Value.int .i64 0, Value.string ⟨#[]⟩, Value.slice none 0 0] (n * 3)).toList = (List.replicate n Ob.zero).flatMap Ob.cs := made_flat Ob.cs Ob.zero #[Value.int .i64 0, Value.string ⟨#[]⟩, Value.slice none 0 0] 3 (by omega) rfl (fun _ => rfl) n
  rw [em] at hk1
  clear hown hgr em
  go_wp2
  go_loopw [4] (fun i wr => ∃ (k : Nat) (l : List Ob), k ≤ n ∧ i = .int .i64 k ∧ l.length = k ∧ l.map Ob.p = (os.take k).map Ob.p ∧ Below w.heap.size w wr ∧ w.heap.size + 1 ≤ wr.heap.size ∧ Blk wr w.heap.size ((l ++ List.replicate (n - l.length) Ob.zero).flatMap Ob.cs) 52 ∧ OwnO wr (w.heap.size + 1) l) (fun i _ => n - (intOf i).toNat)
  case atStart => exact ⟨0, [], Nat.zero_le _, rfl, rfl, rfl, hb1, hk1.lt, by simpa using hk1, fun i hi => by simp at hi⟩
  case round =>
    obtain ⟨k, l, hk, rfl, hlk, hmap, hb, hws, hblk, hown⟩ := hrel
    clear hb1 hk1
    by_cases hlt : k < n
    · have hkz : k < os.length := by omega
      have hok := ho k hkz
      have hsg := (h.2 k hkz).below hb (Nat.le_refl _)
      obtain ⟨b, off, rfl, hbw, c1, c2, c3⟩ := h.get hkz
      have d1 := (hb.cell (p := ⟨b, off + k * 3, none⟩) hbw).trans c1
      have d2 := (hb.cell (p := ⟨b, off + k * 3 + 1, none⟩) hbw).trans c2
      have d3 := (hb.cell (p := ⟨b, off + k * 3 + 2, none⟩) hbw).trans c3
      have Hmap : Hid (l.map Ob.p = (os.take k).map Ob.p) := hmap
      have Hlk : Hid (l.length = k) := hlk
      clear c1 c2 c3 hmap hlk
      go_wp2_with fail
      refine (toMemObj_any _ _ _ _ _ os[k].r _ rfl hok hsg).mono ?_
      rintro e w1 ⟨g, rfl, hb1, hg, hgb⟩
      have hlk := Hlk.out
      have hblk1 := hblk.below hb1 hblk.lt
      have hown1 := hown.below hb1 (Nat.le_refl _)
      have hbb := hb.trans (hb1.mono hb.size)
      have hws1 := Nat.le_trans hws hb1.size
      clear hb hb1 hblk d1 d2 d3 hown hsg
      have f1 := hblk1.free (k * 3)
      have f2 := hblk1.free (k * 3 + 1)
      have f3 := hblk1.free (k * 3 + 2)
      have hlen : ((l ++ List.replicate (n - l.length) Ob.zero).flatMap Ob.cs).length = n * 3 := by rw [flat_len Ob.cs 3 (fun _ => rfl)]; simp; omega
      obtain ⟨v1, hv1⟩ : ∃ v, w1.cell? ⟨w.heap.size, k * 3, none⟩ = some v := ⟨_, (hblk1.cell _).trans (List.getElem?_eq_getElem (by rw [hlen]; omega))⟩
      obtain ⟨v2, hv2⟩ : ∃ v, w1.cell? ⟨w.heap.size, k * 3 + 1, none⟩ = some v := ⟨_, (hblk1.cell _).trans (List.getElem?_eq_getElem (by rw [hlen]; omega))⟩
      obtain ⟨v3, hv3⟩ : ∃ v, w1.cell? ⟨w.heap.size, k * 3 + 2, none⟩ = some v := ⟨_, (hblk1.cell _).trans (List.getElem?_eq_getElem (by rw [hlen]; omega))⟩
      have hst := ((hblk1.store (k * 3) (.int .i64 os[k].k)).store (k * 3 + 1) (.string os[k].t)).store (k * 3 + 2) (.slice (some ⟨g, 0, none⟩) os[k].r.length os[k].r.length)
      have e3 := set3 (l ++ List.replicate (n - l.length) Ob.zero) k ⟨os[k].k, os[k].t, some ⟨g, 0, none⟩, os[k].r.length, os[k].r⟩
      dsimp only at e3
      rw [e3] at hst
      have e4 := set_snoc l Ob.zero ⟨os[k].k, os[k].t, some ⟨g, 0, none⟩, os[k].r.length, os[k].r⟩ n (by omega)
      rw [hlk] at e4
      rw [hlk, e4] at hst
      have hsb := ((hbb.setCell (p := ⟨w.heap.size, k * 3, none⟩) (Nat.le_refl _) (.int .i64 os[k].k)).setCell (p := ⟨w.heap.size, k * 3 + 1, none⟩) (Nat.le_refl _) (.string os[k].t)).setCell (p := ⟨w.heap.size, k * 3 + 2, none⟩) (Nat.le_refl _) (.slice (some ⟨g, 0, none⟩) os[k].r.length os[k].r.length)
      have ho1 := ((((hown1.snoc ⟨os[k].k, os[k].t, some ⟨g, 0, none⟩, os[k].r.length, os[k].r⟩ g rfl (by omega) rfl hgb).store ⟨w.heap.size, k * 3, none⟩ (.int .i64 os[k].k) (by dsimp only; omega)).store ⟨w.heap.size, k * 3 + 1, none⟩ (.string os[k].t) (by dsimp only; omega)).store ⟨w.heap.size, k * 3 + 2, none⟩ (.slice (some ⟨g, 0, none⟩) os[k].r.length os[k].r.length) (by dsimp only; omega))
      have HM : Hid ((l ++ [(⟨os[k].k, os[k].t, some ⟨g, 0, none⟩, os[k].r.length, os[k].r⟩ : Ob)]).map Ob.p = (os.take (k + 1)).map Ob.p) := by
        show _ = _
        rw [List.map_append, Hmap.out, List.take_succ_eq_append_getElem hkz, List.map_append]; rfl
      have HL : Hid ((l ++ [(⟨os[k].k, os[k].t, some ⟨g, 0, none⟩, os[k].r.length, os[k].r⟩ : Ob)]).length = k + 1) := by show _ = _; simp [hlk]
      have Hst := id hst
      clear hblk1 hbb hlen e3 e4 hlk hgb hown1 hst
      go_wp2
      go_roundw
      case rel => exact ⟨k + 1, _, by omega, by go_num, HL.out, HM.out, hsb, by simpa [World.setCell] using hws1, Hst, ho1⟩
      case measure => simp [intOf]; omega
    · go_wp2
      go_ret
      obtain rfl : k = n := by omega
      refine ⟨l, rfl, by simpa [← hz] using hmap, hb, by simpa [hlk] using hblk, hown⟩
end Go.Proofs.Ytcpnkpogebjieaa
