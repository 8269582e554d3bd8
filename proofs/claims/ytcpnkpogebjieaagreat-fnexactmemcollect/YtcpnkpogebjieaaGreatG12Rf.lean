/- What can be come to, as a plain function; rows that a call owns and grows. No Go function -/
import Derived.Maps.AppendAt
import Derived.Test.YtcpnkpogebjieaaGreatG11Ok
import Derived.RangeFuncFrom
import Derived.RangeFuncBox
import Derived.RangeFuncLeaves
import Derived.Shelf.Abstract
import Derived.WalkKit
import Derived.OwnWalkIn
import Derived.TacticsInMore
import Derived.LoopNIn
import Derived.LoopIn
namespace Go.Proofs.YtcpnkpogebjieaaGreat
open Go.RowKit
/- Growing rows. -/
theorem gb_refl (w : World) (r : Option Nat) : w.grownBy w r := ⟨rfl, rfl, rfl, Nat.le_refl _, fun _ _ _ => rfl⟩
theorem gb_trans {a b c : World} {r : Option Nat} (h : a.grownBy b r) (k : b.grownBy c r) : a.grownBy c r :=
 ⟨k.os.trans h.os, k.tape.trans h.tape, k.output.trans h.output, Nat.le_trans h.size k.size, fun i hi hr => (k.block i (Nat.lt_of_lt_of_le hi h.size) hr).trans (h.block i hi hr)⟩
theorem gb_of_below {w w' : World} {B : Nat} (h : Below B w w') (hB : w.heap.size ≤ B) (r : Option Nat) : w.grownBy w' r :=
 ⟨h.os, h.tape, h.output, h.size, fun k hk _ => h.block k (by omega)⟩
theorem gb_below {w w' : World} {B : Nat} {r : Option Nat} (h : w.grownBy w' r) (hB : B ≤ w.heap.size) (hr : ∀ k, r = some k → B ≤ k) : Below B w w' :=
 (Below.refl B w).grown h hB hr
theorem gb_step {a b c : World} {r s : Option Nat} (h : a.grownBy b r) (k : b.grownBy c s) (hs : s = r ∨ ∃ g, s = some g ∧ a.heap.size ≤ g) : a.grownBy c r := by
 refine ⟨k.os.trans h.os, k.tape.trans h.tape, k.output.trans h.output, Nat.le_trans h.size k.size, fun i hi hr => ?_⟩
 refine (k.block i (Nat.lt_of_lt_of_le hi h.size) ?_).trans (h.block i hi hr)
 rcases hs with rfl | ⟨g, rfl, hg⟩
 · exact hr
 · intro e; simp at e; omega
def OwnL (w : World) (base : Nat) (v : Value) (zs : List Int) : Prop := w.ownsRow base 3 1 v zs.length (zs.map (Value.int .i64))
theorem OwnL.form {w : World} {base : Nat} {v : Value} {zs : List Int} (h : OwnL w base v zs) : ∃ a cap, v = .slice a zs.length cap ∧ SegI w a zs ∧ (zs.length ≤ cap ∧ cap ≤ maxLen) := by
 rcases h.2 with ⟨h1, h2⟩ | ⟨g, cap, cur, h1, hg, hh, hn, hc, hs, htake⟩
 · refine ⟨none, 0, by rw [h1, h2], fun hm => by omega, by omega, Nat.zero_le _⟩
 · refine ⟨some ⟨g, 0, none⟩, cap, h1, fun hm => ⟨g, 0, rfl, lt_of_block hh, fun i hi => ?_⟩, hn, hc⟩
   have h' : w.ownsRow base 3 1 (.slice (some ⟨g, 0, none⟩) zs.length cap) zs.length (zs.map (Value.int .i64)) := by rw [← h1]; exact h
   rw [Nat.zero_add, h'.cellAt i (by omega)]
   simp [List.getD, List.getElem?_eq_getElem hi]
theorem OwnL.kept {w w' : World} {base : Nat} {v : Value} {zs : List Int} {r : Option Nat} (h : OwnL w base v zs) (hg : w.grownBy w' r) (hne : v.ownBlock = none ∨ v.ownBlock ≠ r) : OwnL w' base v zs := World.ownsRow.kept h hg hne
theorem OwnL.below {w w' : World} {base B : Nat} {v : Value} {zs : List Int} (h : OwnL w base v zs) (hb : Below B w w') (hB : w.heap.size ≤ B) : OwnL w' base v zs := by
 refine World.ownsRow.kept h (gb_of_below hb hB none) ?_
 cases e : v.ownBlock with
 | none => exact Or.inl rfl
 | some k => exact Or.inr (by simp)
theorem OwnL.lt {w : World} {base : Nat} {v : Value} {zs : List Int} (h : OwnL w base v zs) : ∀ k, v.ownBlock = some k → base ≤ k ∧ k < w.heap.size := World.ownsRow.lt h
theorem OwnL.base {w : World} {B C : Nat} {v : Value} {zs : List Int} (h : OwnL w B v zs) (hC : C ≤ B) : OwnL w C v zs := by
 refine ⟨h.1, ?_⟩
 rcases h.2 with h1 | ⟨g, cap, cur, h1, hg, r⟩
 · exact Or.inl h1
 · exact Or.inr ⟨g, cap, cur, h1, Nat.le_trans hC hg, r⟩
theorem OwnL.ne {w : World} {base : Nat} {v : Value} {zs : List Int} (h : OwnL w base v zs) {B t : Nat} {cs : List Value} (hb : Blk w B cs t) (ht : t ≠ 3) : v.ownBlock ≠ some B := by
 intro e
 rcases h.2 with ⟨h1, _⟩ | ⟨g, cap, cur, h1, hg, hh, _⟩
 · rw [h1] at e; simp [Value.ownBlock] at e
 · rw [h1] at e
   simp [Value.ownBlock] at e
   subst e
   unfold Blk at hb
   rw [hb] at hh
   simp at hh
   exact ht hh.2
theorem Blk.grown {w w' : World} {B t : Nat} {cs : List Value} {r : Option Nat} (h : Blk w B cs t) (hg : w.grownBy w' r) (hr : r ≠ some B) : Blk w' B cs t := by
 unfold Blk at *
 rw [hg.block B (lt_of_block h) (fun e => hr e.symm)]; exact h
theorem own_chain {v0 v v' : Value} {a b : Nat} (h : v.ownBlock = v0.ownBlock ∨ ∃ g, v.ownBlock = some g ∧ a ≤ g) (h' : v'.ownBlock = v.ownBlock ∨ ∃ g, v'.ownBlock = some g ∧ b ≤ g) (hab : a ≤ b) : v'.ownBlock = v0.ownBlock ∨ ∃ g, v'.ownBlock = some g ∧ a ≤ g := by
 rcases h' with h' | ⟨g, e, hg⟩
 · rw [h']; exact h
 · exact Or.inr ⟨g, e, by omega⟩
theorem cells4' {w : World} {B t : Nat} {h : Hp} (hk : Blk w B [Value.slice h.oa h.os.length h.ocap, Value.slice h.ra h.rs.length h.rcap, Value.slice h.wa h.ws.length h.wcap, Value.slice h.da h.ds.length h.dcap] t) :
   w.cell? ⟨B, 0, none⟩ = some (.slice h.oa h.os.length h.ocap) ∧ w.cell? ⟨B, 1, none⟩ = some (.slice h.ra h.rs.length h.rcap) ∧ w.cell? ⟨B, 2, none⟩ = some (.slice h.wa h.ws.length h.wcap) ∧ w.cell? ⟨B, 3, none⟩ = some (.slice h.da h.ds.length h.dcap) :=
 ⟨hk.cell 0, hk.cell 1, hk.cell 2, hk.cell 3⟩
def AvI (a : Option Addr) (n : Nat) (r : Option Nat) : Prop := 0 < n → ∀ x, a = some x → some x.block ≠ r
structure HpAv (h : Hp) (r : Option Nat) : Prop where
 ao : AvI h.oa h.os.length r
 aoo : ∀ i (hi : i < h.os.length), AvI h.os[i].ra h.os[i].r.length r
 ar : AvI h.ra h.rs.length r
 aw : AvI h.wa h.ws.length r
 ad : AvI h.da h.ds.length r
theorem SegI.grown {w w' : World} {a : Option Addr} {zs : List Int} {r : Option Nat} (h : SegI w a zs) (hg : w.grownBy w' r) (hr : AvI a zs.length r) : SegI w' a zs := by
 intro hm
 obtain ⟨b, off, h1, h2, h3⟩ := h hm
 exact ⟨b, off, h1, Nat.lt_of_lt_of_le h2 hg.size, fun i hi => (World.cell?_of_block (w := w) (hg.block b h2 (hr hm _ h1))).trans (h3 i hi)⟩
theorem SegW.grown {w w' : World} {a : Option Addr} {ws : List (Int × Int)} {r : Option Nat} (h : SegW w a ws) (hg : w.grownBy w' r) (hr : AvI a ws.length r) : SegW w' a ws := by
 intro hm
 obtain ⟨b, off, h1, h2, h3⟩ := h hm
 have hb := hg.block b h2 (hr hm _ h1)
 exact ⟨b, off, h1, Nat.lt_of_lt_of_le h2 hg.size, fun i hi => ⟨(World.cell?_of_block (w := w) (a := ⟨b, _, none⟩) hb).trans (h3 i hi).1, (World.cell?_of_block (w := w) (a := ⟨b, _, none⟩) hb).trans (h3 i hi).2⟩⟩
theorem SegO.grown {w w' : World} {a : Option Addr} {os : List Ob} {r : Option Nat} (h : SegO w a os) (hg : w.grownBy w' r) (hr : AvI a os.length r) (hrr : ∀ i (hi : i < os.length), AvI os[i].ra os[i].r.length r) : SegO w' a os := by
 refine ⟨fun hm => ?_, fun i hi => (h.2 i hi).grown hg (hrr i hi)⟩
 obtain ⟨b, off, h1, h2, h3⟩ := h.1 hm
 have hb := hg.block b h2 (hr hm _ h1)
 exact ⟨b, off, h1, Nat.lt_of_lt_of_le h2 hg.size, fun i hi => ⟨(World.cell?_of_block (w := w) (a := ⟨b, _, none⟩) hb).trans (h3 i hi).1, (World.cell?_of_block (w := w) (a := ⟨b, _, none⟩) hb).trans (h3 i hi).2.1, (World.cell?_of_block (w := w) (a := ⟨b, _, none⟩) hb).trans (h3 i hi).2.2⟩⟩
theorem HpIn.grown {w w' : World} {h : Hp} {r : Option Nat} (hh : HpIn w h) (hg : w.grownBy w' r) (hr : HpAv h r) : HpIn w' h :=
 ⟨hh.so.grown hg hr.ao hr.aoo, hh.sr.grown hg hr.ar, hh.sw.grown hg hr.aw, hh.sd.grown hg hr.ad⟩
theorem SegI.av {w : World} {a : Option Addr} {zs : List Int} (h : SegI w a zs) {g : Nat} (hg : w.heap.size ≤ g) : AvI a zs.length (some g) := fun hm x hx => by
 obtain ⟨b, off, h1, h2, _⟩ := h hm
 rw [h1] at hx
 simp at hx
 subst hx
 intro e; simp at e; omega
theorem HpIn.av {w : World} {h : Hp} (hh : HpIn w h) {g : Nat} (hg : w.heap.size ≤ g) : HpAv h (some g) := by
 refine ⟨fun hm x hx => ?_, fun i hi => (hh.so.2 i hi).av hg, hh.sr.av hg, fun hm x hx => ?_, fun hm x hx => ?_⟩
 · obtain ⟨b, off, h1, h2, _⟩ := hh.so.1 hm
   rw [h1] at hx; simp at hx; subst hx
   intro e; simp at e; omega
 · obtain ⟨b, off, h1, h2, _⟩ := hh.sw hm
   rw [h1] at hx; simp at hx; subst hx
   intro e; simp at e; omega
 · obtain ⟨b, off, h1, h2, _⟩ := hh.sd hm
   rw [h1] at hx; simp at hx; subst hx
   intro e; simp at e; omega
theorem AvI.none (a : Option Addr) (n : Nat) : AvI a n .none := fun _ x _ e => by cases e
theorem HpAv.none (h : Hp) : HpAv h .none := ⟨AvI.none _ _, fun _ _ => AvI.none _ _, AvI.none _ _, AvI.none _ _, AvI.none _ _⟩
/- Plain. -/
def put (l : List Int) (n : Int) : List Int := if n < 0 ∨ n ∈ l then l else l ++ [n]
def putAll (l ns : List Int) : List Int := ns.foldl put l
def nextP (os : List (Int × ByteArray × List Int)) (ds : List (Int × Int)) (at_ : Int) : List Int :=
 match os[at_.toNat]? with
 | none => []
 | some o => if o.1 = 3 then o.2.2.drop 1 else if o.1 = 4 then (ds.filter fun p => p.1 == at_).map fun p => p.2 else o.2.2
def traceF (os : List (Int × ByteArray × List Int)) (ds : List (Int × Int)) : Nat → Nat → List Int → List Int
 | 0, _, l => l
 | f + 1, i, l => if i < l.length then traceF os ds f (i + 1) (putAll l (nextP os ds (l.getD i 0))) else l
def reachP (x : List (Int × ByteArray × List Int) × List Int × List (Int × Int) × List (Int × Int)) : List Int :=
 if okP x then traceF x.1 x.2.2.2 61 0 (putAll [] x.2.1) else []
structure Places (n : Nat) (l : List Int) : Prop where
 rng : ∀ z ∈ l, 0 ≤ z ∧ z < n
 nd : l.Nodup
theorem Places.nil (n : Nat) : Places n [] := ⟨fun _ h => by simp at h, List.nodup_nil⟩
theorem Places.put {n : Nat} {l : List Int} (h : Places n l) {z : Int} (hz : z < n) : Places n (put l z) := by
 unfold Go.Proofs.YtcpnkpogebjieaaGreat.put
 split
 · exact h
 · rename_i hn
   refine ⟨fun y hy => ?_, ?_⟩
   · rcases List.mem_append.1 hy with hy | hy
     · exact h.rng y hy
     · simp at hy; subst hy; omega
   · rw [List.nodup_append]
     refine ⟨h.nd, by simp, fun a ha b hb => ?_⟩
     simp at hb
     subst hb
     intro e
     subst e
     exact hn (Or.inr ha)
theorem Places.putAll {n : Nat} {l ns : List Int} (h : Places n l) (hn : ∀ z ∈ ns, z < n) : Places n (putAll l ns) := by
 unfold Go.Proofs.YtcpnkpogebjieaaGreat.putAll
 induction ns generalizing l with
 | nil => exact h
 | cons z ns ih => exact ih (h.put (hn z (by simp))) (fun y hy => hn y (by simp [hy]))
theorem nodup_len (n : Nat) : ∀ (l : List Nat), l.Nodup → (∀ x ∈ l, x < n) → l.length ≤ n := by
 induction n with
 | zero =>
   intro l _ h
   cases l with
   | nil => simp
   | cons a l => exact absurd (h a (by simp)) (by omega)
 | succ n ih =>
   intro l hnd h
   by_cases hm : n ∈ l
   · have h1 := ih (l.erase n) (hnd.erase n) (fun x hx => by
       have := hnd.mem_erase_iff.1 hx
       have := h x this.2
       omega)
     rw [List.length_erase_of_mem hm] at h1
     omega
   · have h1 := ih l hnd (fun x hx => by
       have := h x hx
       have : x ≠ n := fun e => hm (e ▸ hx)
       omega)
     omega
theorem Places.len {n : Nat} {l : List Int} (h : Places n l) : l.length ≤ n := by
 have hnd : (l.map Int.toNat).Nodup := by
   rw [List.Nodup, List.pairwise_map]
   refine List.Pairwise.imp_of_mem ?_ h.nd
   intro a b ha hb hab
   have h1 := h.rng a ha
   have h2 := h.rng b hb
   intro e
   apply hab
   omega
 have := nodup_len n _ hnd (fun x hx => by
   obtain ⟨z, hz, rfl⟩ := List.mem_map.1 hx
   have := h.rng z hz
   omega)
 simpa using this
theorem put_le (l : List Int) (z : Int) : l.length ≤ (put l z).length := by
 unfold put; split <;> simp
theorem putAll_le (l ns : List Int) : l.length ≤ (putAll l ns).length := by
 unfold putAll
 induction ns generalizing l with
 | nil => exact Nat.le_refl _
 | cons z ns ih => exact Nat.le_trans (put_le l z) (ih _)
theorem putAll_pre (l ns : List Int) : ∃ t, putAll l ns = l ++ t := by
 unfold putAll
 induction ns generalizing l with
 | nil => exact ⟨[], by simp⟩
 | cons z ns ih =>
   obtain ⟨t, ht⟩ := ih (put l z)
   have hp : ∃ s, put l z = l ++ s := by
     unfold put
     split
     · exact ⟨[], by simp⟩
     · exact ⟨[z], rfl⟩
   obtain ⟨s, hs⟩ := hp
   refine ⟨s ++ t, ?_⟩
   rw [List.foldl_cons, ht, hs, List.append_assoc]
theorem putAll_take (l ns : List Int) (k : Nat) (hk : k ≤ l.length) : (putAll l ns).take k = l.take k := by
 obtain ⟨t, ht⟩ := putAll_pre l ns
 rw [ht, List.take_append_of_le_length hk]
theorem putAll_snoc (l ns : List Int) (k : Nat) (hk : k < ns.length) : putAll l (ns.take (k + 1)) = put (putAll l (ns.take k)) ns[k] := by
 unfold putAll
 rw [List.take_succ_eq_append_getElem hk, List.foldl_append]; rfl
def AtP (zs : List Int) (x r : Int) : Prop := (r = -1 ∧ x ∉ zs) ∨ ∃ k : Nat, r = k ∧ zs[k]? = some x ∧ ∀ j, j < k → zs[j]? ≠ some x
theorem AtP.mem {zs : List Int} {x r : Int} (h : AtP zs x r) : 0 ≤ r ↔ x ∈ zs := by
 rcases h with ⟨rfl, hn⟩ | ⟨k, rfl, hk, _⟩
 · simp [hn]
 · simp only [Int.natCast_nonneg, true_iff]
   exact List.mem_of_getElem? hk
theorem ret_int {a b : Int} (h : a = b) : Ending.returned (.int .i64 a) = .returned (.int .i64 b) := by rw [h]
set_option maxHeartbeats 400000 in
set_option maxRecDepth 100000 in
theorem l2At_any (a : Option Addr) (n cap : Nat) (zs : List Int) (x : Int) (w : World) (hl : zs.length = n) (hn : n ≤ maxLen) (h : SegI w a zs) :
   Calls Cut.prog 36 #[.slice a n cap, .int .i64 x] w fun e w' => ∃ r : Int, e = .returned (.int .i64 r) ∧ w' = w ∧ AtP zs x r := by
 unfold maxLen at hn
 go_enter (Cut.func_of Tryz.func36 rfl), Tryz.ntmps36
 go_wp2
 go_loop [5] (fun i => ∃ j : Nat, j ≤ n ∧ i = .int .i64 j ∧ ∀ y, y < j → zs[y]? ≠ some x) (fun i => n - (intOf i).toNat)
 case atStart => exact ⟨0, Nat.zero_le _, rfl, fun y hy => by omega⟩
 case round =>
   obtain ⟨j, hj, rfl, hall⟩ := hrel
   have HA : Hid (∀ y, y < j → zs[y]? ≠ some x) := hall
   clear hall
   by_cases hlt : j < n
   · have hjl : j < zs.length := by omega
     obtain ⟨b, off, rfl, hbw, c1⟩ := h.get hjl
     by_cases he : zs[j] = x
     · have hd : (zs[j] == x) = true := by simpa using he
       have HK : Hid (zs[j]? = some x) := by show _ = _; rw [List.getElem?_eq_getElem hjl, he]
       clear he
       go_wp2
       go_ret
       exact ⟨_, rfl, rfl, Or.inr ⟨j, rfl, HK.out, HA.out⟩⟩
     · have hd : (zs[j] == x) = false := by simpa using he
       have HK : Hid (∀ y, y < j + 1 → zs[y]? ≠ some x) := fun y hy => by
         by_cases e : y = j
         · subst e; rw [List.getElem?_eq_getElem hjl]; simpa using he
         · exact HA.out y (by omega)
       clear he
       go_wp2
       go_round
       case rel => exact ⟨j + 1, by omega, by go_num, HK.out⟩
       case measure => simp [intOf]; omega
   · go_wp2
     go_ret
     refine ⟨_, rfl, rfl, Or.inl ⟨rfl, fun hm => ?_⟩⟩
     obtain ⟨y, hy, e⟩ := List.getElem_of_mem hm
     exact HA.out y (by omega) (by rw [List.getElem?_eq_getElem hy, e])
set_option maxHeartbeats 400000 in
set_option maxRecDepth 100000 in
theorem l2Put_any (base : Nat) (v : Value) (zs : List Int) (x : Int) (w : World) (hv : OwnL w base v zs) (hb : base ≤ w.heap.size) (hl : zs.length ≤ 1000000) :
   Calls Cut.prog 85 #[v, .int .i64 x] w fun e w' => ∃ v', e = .returned v' ∧ OwnL w' base v' (put zs x) ∧ w.grownBy w' v.ownBlock ∧ (v'.ownBlock = v.ownBlock ∨ ∃ g, v'.ownBlock = some g ∧ w.heap.size ≤ g) := by
 obtain ⟨a, cap, rfl, hs, hc1, hc2⟩ := hv.form
 by_cases hx : x < 0
 · have E : Hid (put zs x = zs) := by simp [Hid, put, hx]
   go_enter (Cut.func_of Tryz.func85 rfl), Tryz.ntmps85
   go_wp2
   go_ret
   exact ⟨_, rfl, by rw [E.out]; exact hv, gb_refl _ _, Or.inl rfl⟩
 · obtain ⟨i0, hi, hz0, hz1, hz2⟩ := info_parts info_int
   have hd : decide (x < 0) = false := by simpa using hx
   go_enter (Cut.func_of Tryz.func85 rfl), Tryz.ntmps85
   go_wp2_with fail
   refine (l2At_any a zs.length cap zs x _ rfl (by unfold maxLen; omega) hs).mono ?_
   rintro e w1 ⟨r, rfl, rfl, hr⟩
   have hm := hr.mem
   clear hr
   by_cases hr0 : 0 ≤ r
   · have E : Hid (put zs x = zs) := by simp [Hid, put, hm.1 hr0]
     clear hm
     go_wp2
     go_ret
     exact ⟨_, rfl, by rw [E.out]; exact hv, gb_refl _ _, Or.inl rfl⟩
   · have hx' : x ∉ zs := fun h => hr0 (hm.2 h)
     have E : Hid (put zs x = zs ++ [x]) := by simp [Hid, put, hx, hx']
     have hd2 : decide (0 ≤ r) = false := by simpa using hr0
     clear hm hx'
     have hvA : (w1.alloc (Obj.cells #[Value.int .i64 x] 3)).ownsRow base 3 1 (.slice a zs.length cap) zs.length (zs.map (Value.int .i64)) := World.ownsRow.alloc hv _
     go_wp2_with (at_builtin; refine wpList_append_own_at _ rfl _ _ 24 rfl base 3 i0 (.int .i64 0) 1 8 ((Cut.under_eq 24).trans Tryz.underlying24) hi hz0 hz1 hz2 rfl (by decide) _ _ _ rfl hvA ⟨w1.heap.size, 0, none⟩ 1 1 [.int .i64 x] rfl rfl (cell_one_new _ _ _) ?c2 ?c3 ?c4 ?c5 ?_)
     case c2 => intro u hu; simp at hu; subst hu; rfl
     case c3 => unfold maxLen; omega
     case c4 => omega
     case c5 => simp; omega
     intro v' w2 hown hgr _ hat
     have hg0 : w1.grownBy w2 (Value.slice a zs.length cap).ownBlock := gb_trans (gb_of_below ((Below.refl w1.heap.size w1).alloc (Nat.le_refl _) _) (Nat.le_refl _) _) hgr
     have hat' : v'.ownBlock = (Value.slice a zs.length cap).ownBlock ∨ ∃ g, v'.ownBlock = some g ∧ w1.heap.size ≤ g := by
       rcases hat with h | h
       · exact Or.inl h
       · exact Or.inr ⟨_, h, by simp⟩
     have hown' : Hid (OwnL w2 base v' (zs ++ [x])) := by
       show OwnL _ _ _ _
       unfold OwnL
       simpa using hown
     clear hown hgr hat
     go_wp2
     go_ret
     exact ⟨_, rfl, by rw [E.out]; exact hown'.out, hg0, hat'⟩
theorem gb_set (w : World) (g j : Nat) (v : Value) : w.grownBy (w.setCell ⟨g, j, none⟩ v) (some g) := ⟨rfl, rfl, rfl, by simp [World.setCell], fun k _ hk => Below.heap_setCell _ _ _ _ (fun e => hk (by rw [e]))⟩
def dig (d : Int) : ByteArray := ByteArray.empty.push (UInt8.ofNat d.toNat)
theorem conv1 (d : Int) (w : World) : (convert 22 9 (.slice (some ⟨w.heap.size, 0, none⟩) 1 1)).run Cut.prog (w.alloc (Obj.cells #[Value.int .u8 d] 5)) = .ok (.string (dig d)) (w.alloc (Obj.cells #[Value.int .u8 d] 5)) := by
 rw [run_convert_bytes_string _ _ _ 5 _ _ _ ((Cut.under_eq 22).trans Tryz.underlying22) ((Cut.under_eq 5).trans Tryz.underlying5) ((Cut.under_eq 9).trans Tryz.underlying9)]
 rw [run_bytesToString _ _ _ _ [d] ?_]
 · rfl
 · simp [loadCells, loadCellsFrom, go_sem]
def txF : Nat → Nat → ByteArray → ByteArray
 | 0, _, s => s
 | f + 1, m, s => if 0 < m then txF f (m / 10) (dig (48 + (m : Int) % 10) ++ s) else s
def mt (k : Int) : ByteArray := if k ≤ 0 then ⟨#[109, 48]⟩ else ⟨#[109]⟩ ++ txF (k.toNat + 1) k.toNat ⟨#[]⟩
theorem ret_str {a b : ByteArray} (h : a = b) : Ending.returned (.string a) = .returned (.string b) := by rw [h]
set_option maxHeartbeats 400000 in
set_option maxRecDepth 100000 in
theorem markText_any (k : Int) (w : World) (h0 : 0 ≤ k) (h1 : k ≤ 1000000000000000) :
   Calls Cut.prog 103 #[.int .i64 k] w fun e w' => e = .returned (.string (mt k)) ∧ Below w.heap.size w w' := by
 by_cases hk : k ≤ 0
 · have E : Hid (mt k = ⟨#[109, 48]⟩) := by simp [Hid, mt, hk]
   go_enter (Cut.func_of Tryz.func103 rfl), Tryz.ntmps103
   go_wp2
   go_ret
   exact ⟨ret_str E.out.symm, Below.refl _ _⟩
 · have hd : decide (k ≤ 0) = false := by simpa using hk
   have E : Hid (mt k = ⟨#[109]⟩ ++ txF (k.toNat + 1) k.toNat ⟨#[]⟩) := by simp [Hid, mt, hk]
   generalize hR : txF (k.toNat + 1) k.toNat ⟨#[]⟩ = R at E
   have HR : Hid (txF (k.toNat + 1) k.toNat ⟨#[]⟩ = R) := hR
   clear hR
   go_enter (Cut.func_of Tryz.func103 rfl), Tryz.ntmps103
   go_wp2
   go_loopw [0, 3] (fun q o wr => ∃ (m f : Nat) (s : ByteArray), q = .int .i64 m ∧ m ≤ 1000000000000000 ∧ o = .string s ∧ s.size + m ≤ 1000000000000000 ∧ m ≤ f ∧ txF f m s = R ∧ Below w.heap.size w wr) (fun q _ _ => (intOf q).toNat)
   case atStart => exact ⟨k.toNat, k.toNat + 1, ⟨#[]⟩, by go_num, by omega, rfl, by show 0 + _ ≤ _; omega, by omega, HR.out, Below.refl _ _⟩
   case round =>
     obtain ⟨m, f, s, rfl, hm, rfl, hsz, hmf, htx, hb⟩ := hrel
     by_cases hp : 0 < m
     · obtain ⟨f', rfl⟩ : ∃ f', f = f' + 1 := ⟨f - 1, by omega⟩
       have HT : Hid (txF f' (m / 10) (dig (48 + (m : Int) % 10) ++ s) = R) := by
         have := htx
         unfold txF at this
         rw [if_pos hp] at this
         exact this
       have hcv := conv1 (48 + (m : Int) % 10) wr
       have hds : (dig (48 + (m : Int) % 10)).size = 1 := rfl
       have hds2 : (dig (48 + (m : Int) % 10) ++ s).size = 1 + s.size := by rw [ByteArray.size_append, hds]
       have HD : Hid ((dig (48 + (m : Int) % 10) ++ s).size = 1 + s.size) := hds2
       clear htx hds2
       go_wp2
       go_roundw
       case rel => exact ⟨m / 10, f', _, by go_num, by omega, rfl, by rw [HD.out]; omega, by omega, HT.out, hb.alloc hb.size _⟩
       case measure => simp [intOf]; omega
     · have e : R = s := by
         rw [← htx]
         cases f with
         | zero => rfl
         | succ f => unfold txF; rw [if_neg hp]
       clear htx
       go_wp2
       go_ret
       exact ⟨ret_str (by rw [E.out, e]), hb⟩
def marks (k : Int) (n : Nat) : List Int := (List.range n).map fun (i : Nat) => k + i
theorem marks_len (k : Int) (n : Nat) : (marks k n).length = n := by simp [marks]
theorem marks_get (k : Int) (n i : Nat) (h : i < (marks k n).length) : (marks k n)[i] = k + i := by simp [marks]
theorem marks_set (k : Int) (xs : List Value) (j : Nat) (hj : j < xs.length) :
   ((marks k j).map (Value.int .i64) ++ xs.drop j).set j (.int .i64 (k + j)) = (marks k (j + 1)).map (Value.int .i64) ++ xs.drop (j + 1) := by
 have h1 : ((marks k j).map (Value.int .i64)).length = j := by simp [marks]
 rw [List.set_append, if_neg (by omega), h1, Nat.sub_self]
 have h2 : xs.drop j = xs[j] :: xs.drop (j + 1) := (List.getElem_cons_drop hj).symm
 rw [h2, List.set_cons_zero]
 simp [marks, List.range_succ]
set_option maxHeartbeats 400000 in
set_option maxRecDepth 100000 in
theorem markIntS_row (base g n cap : Nat) (xs : List Value) (k : Int) (w : World) (hn : n ≤ 1048576) (h0 : 0 ≤ k) (h1 : k ≤ 100000000000000) (hv : w.ownsRow base 3 1 (.slice (some ⟨g, 0, none⟩) n cap) n xs) :
   Calls Cut.prog 27 #[.slice (some ⟨g, 0, none⟩) n cap, .int .i64 k] w fun e w' => e = .returned (.int .i64 (k + n)) ∧ w'.ownsRow base 3 1 (.slice (some ⟨g, 0, none⟩) n cap) n ((marks k n).map (Value.int .i64)) ∧ w.grownBy w' (some g) := by
 have hlen : xs.length = n := by have := hv.1; simpa using this
 go_enter (Cut.func_of Tryz.func27 rfl), Tryz.ntmps27
 go_wp2
 go_loopw [1, 5] (fun q i wr => ∃ j : Nat, j ≤ n ∧ i = .int .i64 j ∧ q = .int .i64 (k + j) ∧ wr.ownsRow base 3 1 (.slice (some ⟨g, 0, none⟩) n cap) n ((marks k j).map (Value.int .i64) ++ xs.drop j) ∧ w.grownBy wr (some g)) (fun _ i _ => n - (intOf i).toNat)
 case atStart => exact ⟨0, Nat.zero_le _, rfl, by go_num, by simpa [marks] using hv, gb_refl _ _⟩
 case round =>
   obtain ⟨j, hj, rfl, rfl, hown, hgr⟩ := hrel
   by_cases hlt : j < n
   · have hf := hown.frozenAt j
     obtain ⟨v, hc⟩ : ∃ v, wr.cell? ⟨g, j, none⟩ = some v := ⟨_, (hown.cellAt j (by omega)).trans (List.getElem?_eq_getElem (by simp [marks]; omega))⟩
     obtain ⟨hst, hg2⟩ := hown.stored j (.int .i64 (k + j))
     rw [marks_set k xs j (by omega)] at hst
     have hg3 := gb_trans hgr hg2
     clear hown hgr hg2
     go_wp2
     go_roundw
     case rel => exact ⟨j + 1, by omega, by go_num, by go_num, hst, hg3⟩
     case measure => simp [intOf]; omega
   · have ej : j = n := by omega
     subst ej
     have e2 : xs.drop j = [] := List.drop_of_length_le (by omega)
     rw [e2, List.append_nil] at hown
     go_wp2
     go_ret
     exact ⟨rfl, hown, hgr⟩
set_option maxHeartbeats 400000 in
set_option maxRecDepth 100000 in
theorem markIntS_none (k : Int) (w : World) :
   Calls Cut.prog 27 #[.slice none 0 0, .int .i64 k] w fun e w' => e = .returned (.int .i64 k) ∧ w' = w := by
 go_enter (Cut.func_of Tryz.func27 rfl), Tryz.ntmps27
 go_wp2
 refine wp_loop_rounds 1 ?_
 rw [rounds_succ]
 go_wp2
 go_ret
 exact ⟨rfl, rfl⟩
theorem markIntS_own (base : Nat) (v : Value) (zs : List Int) (k : Int) (w : World) (hn : zs.length ≤ 1048576) (h0 : 0 ≤ k) (h1 : k ≤ 100000000000000) (hv : OwnL w base v zs) :
   Calls Cut.prog 27 #[v, .int .i64 k] w fun e w' => e = .returned (.int .i64 (k + zs.length)) ∧ OwnL w' base v (marks k zs.length) ∧ w.grownBy w' v.ownBlock := by
 have hcase := hv.2
 rcases hcase with ⟨rfl, h2⟩ | ⟨g, cap, cur, rfl, _⟩
 · refine (markIntS_none k w).mono ?_
   rintro e w' ⟨rfl, rfl⟩
   refine ⟨by rw [h2]; simp, ?_, gb_refl _ _⟩
   have : zs = [] := List.eq_nil_of_length_eq_zero h2
   subst this
   exact hv
 · refine (markIntS_row base g zs.length cap _ k w hn h0 h1 hv).mono ?_
   rintro e w' ⟨rfl, h3, h4⟩
   refine ⟨rfl, ?_, h4⟩
   unfold OwnL
   rw [marks_len]
   exact h3
theorem markIntS_blk (g n : Nat) (cs : List Value) (k : Int) (w : World) (hc : cs.length = n) (hn : n ≤ 1048576) (h0 : 0 ≤ k) (h1 : k ≤ 100000000000000) (hv : Blk w g cs 3) :
   Calls Cut.prog 27 #[.slice (some ⟨g, 0, none⟩) n n, .int .i64 k] w fun e w' => e = .returned (.int .i64 (k + n)) ∧ Blk w' g ((marks k n).map (Value.int .i64)) 3 ∧ w.grownBy w' (some g) := by
 have ho : w.ownsRow g 3 1 (.slice (some ⟨g, 0, none⟩) n n) n cs := ⟨by omega, .inr ⟨g, n, cs.toArray, rfl, Nat.le_refl _, hv, Nat.le_refl _, by unfold maxLen; omega, by simp [hc], by simp [← hc]⟩⟩
 refine (markIntS_row g g n n cs k w hn h0 h1 ho).mono ?_
 rintro e w' ⟨rfl, h3, h4⟩
 exact ⟨rfl, blk_made h3, h4⟩
set_option maxHeartbeats 400000 in
set_option maxRecDepth 100000 in
theorem heldIntS_any (a : Option Addr) (n cap : Nat) (k : Int) (w : World) (hn : n ≤ 1048576) (h0 : 0 ≤ k) (h1 : k ≤ 100000000000000) (h : SegI w a (marks k n)) :
   Calls Cut.prog 29 #[.slice a n cap, .int .i64 k] w fun e w' => e = .returned (.int .i64 (k + n)) ∧ w' = w := by
 go_enter (Cut.func_of Tryz.func29 rfl), Tryz.ntmps29
 go_wp2
 go_loop [1, 5] (fun q i => ∃ j : Nat, j ≤ n ∧ i = .int .i64 j ∧ q = .int .i64 (k + j)) (fun _ i => n - (intOf i).toNat)
 case atStart => exact ⟨0, Nat.zero_le _, rfl, by go_num⟩
 case round =>
   obtain ⟨j, hj, rfl, rfl⟩ := hrel
   by_cases hlt : j < n
   · have hjl : j < (marks k n).length := by rw [marks_len]; exact hlt
     obtain ⟨b, off, rfl, hbw, c1⟩ := h.get hjl
     rw [marks_get] at c1
     have hd : ((k + (j : Int)) != (k + (j : Int))) = false := by simp
     go_wp2
     go_round
     case rel => exact ⟨j + 1, by omega, by go_num, by go_num⟩
     case measure => simp [intOf]; omega
   · have ej : j = n := by omega
     subst ej
     go_wp2
     go_ret
     exact ⟨rfl, rfl⟩
set_option maxHeartbeats 400000 in
set_option maxRecDepth 100000 in
theorem markMemWatchS_any (g n cap : Nat) (cs : List Value) (k : Int) (w : World) (t : TypeId) (hc : cs.length = n * 2) (hn : n ≤ 1048576) (h0 : 0 ≤ k) (h1 : k ≤ 100000000000000) (hv : Blk w g cs t) :
   Calls Cut.prog 71 #[.slice (some ⟨g, 0, none⟩) n cap, .int .i64 k] w fun e w' => e = .returned (.int .i64 (k + 2 * n)) ∧ w.grownBy w' (some g) := by
 go_enter (Cut.func_of Tryz.func71 rfl), Tryz.ntmps71
 go_wp2
 go_loopw [1, 5] (fun q i wr => ∃ (j : Nat) (cs : List Value), j ≤ n ∧ i = .int .i64 j ∧ q = .int .i64 (k + 2 * j) ∧ cs.length = n * 2 ∧ Blk wr g cs t ∧ w.grownBy wr (some g)) (fun _ i _ => n - (intOf i).toNat)
 case atStart => exact ⟨0, cs, Nat.zero_le _, rfl, by go_num, hc, hv, gb_refl _ _⟩
 case round =>
   obtain ⟨j, cs, hj, rfl, rfl, hc, hblk, hgr⟩ := hrel
   by_cases hlt : j < n
   · have f1 := hblk.free (j * 2)
     have f2 := hblk.free (j * 2 + 1)
     obtain ⟨v1, q1⟩ : ∃ v, wr.cell? ⟨g, j * 2, none⟩ = some v := ⟨_, (hblk.cell _).trans (List.getElem?_eq_getElem (by omega))⟩
     obtain ⟨v2, q2⟩ : ∃ v, wr.cell? ⟨g, j * 2 + 1, none⟩ = some v := ⟨_, (hblk.cell _).trans (List.getElem?_eq_getElem (by omega))⟩
     have hst := (hblk.store (j * 2) (.int .i64 (k + 2 * j))).store (j * 2 + 1) (.int .i64 (k + 2 * j + 1))
     have hg2 : w.grownBy ((wr.setCell ⟨g, j * 2, none⟩ (.int .i64 (k + 2 * j))).setCell ⟨g, j * 2 + 1, none⟩ (.int .i64 (k + 2 * j + 1))) (some g) := gb_trans (gb_trans hgr (gb_set _ _ _ _)) (gb_set _ _ _ _)
     clear hblk hgr
     go_wp2
     go_roundw
     case rel => exact ⟨j + 1, _, by omega, by go_num, by go_num, by simpa using hc, hst, hg2⟩
     case measure => simp [intOf]; omega
   · have ej : j = n := by omega
     subst ej
     go_wp2
     go_ret
     exact ⟨rfl, hgr⟩
structure Rg (lo hi : Nat) (w w' : World) : Prop where
 os : w'.os = w.os
 tape : w'.tape = w.tape
 output : w'.output = w.output
 size : w.heap.size ≤ w'.heap.size
 block : ∀ k, k < w.heap.size → (k < lo ∨ hi ≤ k) → w'.heap[k]? = w.heap[k]?
theorem Rg.refl (lo hi : Nat) (w : World) : Rg lo hi w w := ⟨rfl, rfl, rfl, Nat.le_refl _, fun _ _ _ => rfl⟩
theorem Rg.trans {lo hi : Nat} {a b c : World} (h : Rg lo hi a b) (k : Rg lo hi b c) : Rg lo hi a c :=
 ⟨k.os.trans h.os, k.tape.trans h.tape, k.output.trans h.output, Nat.le_trans h.size k.size, fun i hi hr => (k.block i (Nat.lt_of_lt_of_le hi h.size) hr).trans (h.block i hi hr)⟩
theorem Rg.gb {lo hi g : Nat} {w w' : World} (h : w.grownBy w' (some g)) (h1 : lo ≤ g) (h2 : g < hi) : Rg lo hi w w' :=
 ⟨h.os, h.tape, h.output, h.size, fun k hk hr => h.block k hk (fun e => by simp at e; omega)⟩
theorem Rg.bel {lo hi B : Nat} {w w' : World} (h : Below B w w') (hB : w.heap.size ≤ B) : Rg lo hi w w' :=
 ⟨h.os, h.tape, h.output, h.size, fun k hk _ => h.block k (by omega)⟩
theorem Rg.below {lo hi : Nat} {w w' : World} (h : Rg lo hi w w') (hl : lo ≤ w.heap.size) : Below lo w w' :=
 ⟨h.os, h.tape, h.output, h.size, fun k hk => h.block k (by omega) (Or.inl hk)⟩
theorem Rg.wide {lo hi lo' hi' : Nat} {w w' : World} (h : Rg lo hi w w') (h1 : lo' ≤ lo) (h2 : hi ≤ hi') : Rg lo' hi' w w' :=
 ⟨h.os, h.tape, h.output, h.size, fun k hk hr => h.block k hk (by omega)⟩
theorem Blk.rg {lo hi : Nat} {w w' : World} {B t : Nat} {cs : List Value} (h : Blk w B cs t) (hr : Rg lo hi w w') (hB : B < lo ∨ hi ≤ B) : Blk w' B cs t := by
 unfold Blk at *
 rw [hr.block B (lt_of_block h) hB]; exact h
theorem OwnL.rg {lo hi : Nat} {w w' : World} {base : Nat} {v : Value} {zs : List Int} (h : OwnL w base v zs) (hr : Rg lo hi w w') (hB : ∀ k, v.ownBlock = some k → k < lo ∨ hi ≤ k) : OwnL w' base v zs := by
 refine ⟨h.1, ?_⟩
 rcases h.2 with h1 | ⟨g, cap, cur, h1, hg, hh, r⟩
 · exact Or.inl h1
 · refine Or.inr ⟨g, cap, cur, h1, hg, ?_, r⟩
   rw [hr.block g (lt_of_block hh) (hB g (by rw [h1]; rfl))]; exact hh
structure Mk (w : World) (go hi : Nat) (l : List Ob) : Prop where
 cells : ∃ cs, Blk w go cs 37 ∧ cs.length = l.length * 3 ∧ ∀ i (h : i < l.length), cs[i * 3 + 2]? = some (.slice l[i].ra l[i].r.length l[i].rcap)
 parts : ∀ i (h : i < l.length), ∃ g cs, l[i].ra = some ⟨g, 0, none⟩ ∧ go < g ∧ g < hi ∧ l[i].rcap = l[i].r.length ∧ Blk w g cs 3 ∧ cs.length = l[i].r.length
theorem Mk.below {w w' : World} {go hi : Nat} {l : List Ob} {B : Nat} (h : Mk w go hi l) (hb : Below B w w') (hB : w.heap.size ≤ B) : Mk w' go hi l := by
 refine ⟨?_, fun i hi => ?_⟩
 · obtain ⟨cs, h1, h2⟩ := h.cells
   exact ⟨cs, h1.below hb (Nat.lt_of_lt_of_le h1.lt hB), h2⟩
 · obtain ⟨g, cs, h1, h2, h3, h4, h5, h6⟩ := h.parts i hi
   exact ⟨g, cs, h1, h2, h3, h4, h5.below hb (Nat.lt_of_lt_of_le h5.lt hB), h6⟩
theorem Mk.store {w : World} {go hi : Nat} {l : List Ob} (h : Mk w go hi l) (j : Nat) (v : Value) (hj : j % 3 ≠ 2) : Mk (w.setCell ⟨go, j, none⟩ v) go hi l := by
 refine ⟨?_, fun i hi => ?_⟩
 · obtain ⟨cs, h1, h2, h3⟩ := h.cells
   refine ⟨_, h1.store j v, by simpa using h2, fun i hi => ?_⟩
   rw [List.getElem?_set_ne (by omega)]
   exact h3 i hi
 · obtain ⟨g, cs, h1, h2, h3, h4, h5, h6⟩ := h.parts i hi
   exact ⟨g, cs, h1, h2, h3, h4, h5.other _ _ (by dsimp only; omega), h6⟩
theorem Mk.part {w w' : World} {go hi : Nat} {l : List Ob} (h : Mk w go hi l) {g : Nat} {cs cs' : List Value} (hg : w.grownBy w' (some g)) (hgo : go < g) (hb : Blk w g cs 3) (hb' : Blk w' g cs' 3) (hl : cs'.length = cs.length) : Mk w' go hi l := by
 refine ⟨?_, fun i hi => ?_⟩
 · obtain ⟨c, h1, h2⟩ := h.cells
   exact ⟨c, h1.grown hg (fun e => by simp at e; omega), h2⟩
 · obtain ⟨x, c, h1, h2, h3, h4, h5, h6⟩ := h.parts i hi
   by_cases e : x = g
   · subst e
     have e1 : c = cs := by
       unfold Blk at h5 hb
       rw [h5] at hb
       simpa using hb
     subst e1
     exact ⟨x, cs', h1, h2, h3, h4, hb', by omega⟩
   · exact ⟨x, c, h1, h2, h3, h4, h5.grown hg (fun q => e (by simpa using q.symm)), h6⟩
set_option maxHeartbeats 800000 in
set_option maxRecDepth 100000 in
theorem markMemObjS_any (go hi : Nat) (l : List Ob) (cap : Nat) (k : Int) (w : World) (hn : l.length ≤ 1048576) (hr : ∀ i (h : i < l.length), l[i].r.length ≤ 1048576) (h0 : 0 ≤ k) (h1 : k ≤ 1000000) (hgo : go < hi) (hm : Mk w go hi l) :
   Calls Cut.prog 70 #[.slice (some ⟨go, 0, none⟩) l.length cap, .int .i64 k] w fun e w' => ∃ q : Int, e = .returned (.int .i64 q) ∧ 0 ≤ q ∧ q ≤ 10000000000000 ∧ Rg go hi w w' := by
 go_enter (Cut.func_of Tryz.func70 rfl), Tryz.ntmps70
 go_wp2
 go_loopw [1, 5] (fun c i wr => ∃ (j : Nat) (q : Int), j ≤ l.length ∧ i = .int .i64 j ∧ c = .int .i64 q ∧ 0 ≤ q ∧ q ≤ 1000000 + 1048578 * j ∧ Mk wr go hi l ∧ Rg go hi w wr) (fun _ i _ => l.length - (intOf i).toNat)
 case atStart => exact ⟨0, k, Nat.zero_le _, rfl, rfl, h0, by omega, hm, Rg.refl _ _ _⟩
 case round =>
   obtain ⟨j, q, hj, rfl, rfl, hq0, hq1, hmr, hrg⟩ := hrel
   clear hm
   by_cases hlt : j < l.length
   · obtain ⟨cs, hblk, hlen, hc2⟩ := hmr.cells
     have hrl := hr j hlt
     have f0 := hblk.free (j * 3)
     have f1 := hblk.free (j * 3 + 1)
     obtain ⟨v0, q0⟩ : ∃ v, wr.cell? ⟨go, j * 3, none⟩ = some v := ⟨_, (hblk.cell _).trans (List.getElem?_eq_getElem (by omega))⟩
     have hm1 := hmr.store (j * 3) (.int .i64 q) (by omega)
     have hrg1 := hrg.trans (Rg.gb (hi := hi) (gb_set wr go (j * 3) (.int .i64 q)) (Nat.le_refl _) hgo)
     clear hblk hlen hc2
     go_wp2_with fail
     refine (markText_any _ _ (by omega) (by omega)).mono ?_
     rintro e w1 ⟨rfl, hb1⟩
     have hm2 := hm1.below hb1 (Nat.le_refl _)
     have hrg2 := hrg1.trans (Rg.bel hb1 (Nat.le_refl _))
     obtain ⟨cs, hblk, hlen, hc2⟩ := hm2.cells
     have f2 := hblk.free (j * 3 + 1)
     obtain ⟨v1, q1⟩ : ∃ v, w1.cell? ⟨go, j * 3 + 1, none⟩ = some v := ⟨_, (hblk.cell _).trans (List.getElem?_eq_getElem (by omega))⟩
     have q2 := (hblk.cell (j * 3 + 2)).trans (hc2 j hlt)
     have hm3 := hm2.store (j * 3 + 1) (.string (mt (q + 1))) (by omega)
     have hrg3 := hrg2.trans (Rg.gb (hi := hi) (gb_set w1 go (j * 3 + 1) (.string (mt (q + 1)))) (Nat.le_refl _) hgo)
     obtain ⟨g, pcs, e1, g1, g2, e2, hpb, hpl⟩ := hm3.parts j hlt
     rw [e1, e2] at q2
     have c5 := markIntS_blk g l[j].r.length pcs (q + 1 + 1) _ hpl hrl (by omega) (by omega) hpb
     clear hblk hlen hc2 hb1 hm1 hrg1 hm2 hrg2 hmr hrg e1 e2 f0 f1 q0
     go_wp2_with fail
     refine c5.mono ?_
     rintro e w2 ⟨rfl, hpb2, hg2⟩
     have hm4 := hm3.part hg2 g1 hpb hpb2 (by simp [marks, hpl])
     have hrg4 := hrg3.trans (Rg.gb (lo := go) (hi := hi) hg2 (by omega) g2)
     clear c5 hm3 hrg3 hpb hpb2 hg2 q2 q1 f2
     go_wp2
     go_roundw
     case rel => exact ⟨j + 1, q + 1 + 1 + l[j].r.length, by omega, by go_num, rfl, by omega, by omega, hm4, hrg4⟩
     case measure => simp [intOf]; omega
   · go_wp2
     go_ret
     exact ⟨_, rfl, hq0, by omega, hrg⟩
theorem OwnH.markable {w : World} {B go gr gw gd : Nat} {h : Hp} (hh : OwnH w B h go gr gw gd) : Mk w go gr h.os := by
 refine ⟨⟨_, hh.bo, flat_len Ob.cs 3 (fun _ => rfl) _, fun i hi => ?_⟩, fun i hi => ?_⟩
 · exact flat_get Ob.cs 3 (fun _ => rfl) h.os i 2 hi (by omega)
 · obtain ⟨g, h1, h2, h3, h4⟩ := hh.own i hi
   exact ⟨g, _, h1, by omega, hh.olt i hi g h1, h3, h4, by simp⟩
set_option maxHeartbeats 1600000 in
set_option maxRecDepth 100000 in
theorem markMemHeap_any (B go gr gw gd : Nat) (h : Hp) (w : World) (hs : Small h) (hh : OwnH w B h go gr gw gd) :
   Calls Cut.prog 26 #[h.v, .int .i64 1] w fun e w' => ∃ q : Int, e = .returned (.int .i64 q) ∧ 0 ≤ q ∧ Rg go (gd + 1) w w' := by
 have hmk := hh.markable
 have hgd := hh.bd.lt
 obtain ⟨oa, ocap, os, ra, rcap, rs, wa, wcap, ws, da, dcap, ds⟩ := h
 obtain ⟨e1, e2, e3, e4, e5, e6, e7, e8, _, lt1, lt2, lt3, _, _, _, br, bw, bd⟩ := hh
 dsimp only at e1 e2 e3 e4 e5 e6 e7 e8 br bw bd
 subst e1 e2 e3 e4 e5 e6 e7 e8
 obtain ⟨so, soo, sr, sw, sd⟩ := hs
 simp only [Hp.v] at *
 go_enter (Cut.func_of Tryz.func26 rfl), Tryz.ntmps26
 have hA : Below w.heap.size w (w.alloc (Obj.cells #[Value.slice (some ⟨go, 0, none⟩) os.length os.length, Value.slice (some ⟨gr, 0, none⟩) rs.length rs.length, Value.slice (some ⟨gw, 0, none⟩) ws.length ws.length, Value.slice (some ⟨gd, 0, none⟩) ds.length ds.length] 27)) := (Below.refl _ _).alloc (Nat.le_refl _) _
 have hK := Blk.new w [Value.slice (some ⟨go, 0, none⟩) os.length os.length, Value.slice (some ⟨gr, 0, none⟩) rs.length rs.length, Value.slice (some ⟨gw, 0, none⟩) ws.length ws.length, Value.slice (some ⟨gd, 0, none⟩) ds.length ds.length] 27
 have r0 : Rg go (gd + 1) w _ := Rg.bel hA (Nat.le_refl _)
 have c1 := markMemObjS_any go gr os os.length 1 _ so soo (by omega) (by omega) (by omega) (hmk.below hA (Nat.le_refl _))
 go_wp2_with fail
 refine c1.mono ?_
 rintro e w1 ⟨q1, rfl, hq1, hq1', r1⟩
 have hK1 := hK.rg r1 (Or.inr (by omega))
 have br1 := (br.below hA br.lt).rg r1 (Or.inr (Nat.le_refl _))
 have bw1 := (bw.below hA bw.lt).rg r1 (Or.inr (by omega))
 have bd1 := (bd.below hA bd.lt).rg r1 (Or.inr (by omega))
 have R1 := r0.trans (r1.wide (Nat.le_refl _) (by omega))
 have x1 := hK1.cell 1
 simp only [List.getElem?_cons_zero, List.getElem?_cons_succ] at x1
 have c2 := markIntS_blk gr rs.length _ q1 w1 (by simp) sr hq1 (by omega) br1
 clear c1 r1 hK br bw bd hmk r0
 go_wp2_with fail
 refine c2.mono ?_
 rintro e w2 ⟨rfl, _, g2⟩
 have hK2 := hK1.grown g2 (fun e => by simp at e; omega)
 have bw2 := bw1.grown g2 (fun e => by simp at e; omega)
 have bd2 := bd1.grown g2 (fun e => by simp at e; omega)
 have R2 := R1.trans (Rg.gb (lo := go) (hi := gd + 1) g2 (by omega) (by omega))
 have x2 := hK2.cell 2
 simp only [List.getElem?_cons_zero, List.getElem?_cons_succ] at x2
 have c3 := markMemWatchS_any gw ws.length ws.length _ (q1 + rs.length) w2 _ (flat_len wc 2 (fun _ => rfl) ws) sw (by omega) (by omega) bw2
 clear c2 g2 hK1 br1 bw1 bd1 R1 x1
 go_wp2_with fail
 refine c3.mono ?_
 rintro e w3 ⟨rfl, g3⟩
 have hK3 := hK2.grown g3 (fun e => by simp at e; omega)
 have bd3 := bd2.grown g3 (fun e => by simp at e; omega)
 have R3 := R2.trans (Rg.gb (lo := go) (hi := gd + 1) g3 (by omega) (by omega))
 have x3 := hK3.cell 3
 simp only [List.getElem?_cons_zero, List.getElem?_cons_succ] at x3
 have c4 := markMemWatchS_any gd ds.length ds.length _ (q1 + rs.length + 2 * ws.length) w3 _ (flat_len wc 2 (fun _ => rfl) ds) sd (by omega) (by omega) bd3
 clear c3 g3 hK2 bw2 bd2 R2 x2
 go_wp2_with fail
 refine c4.mono ?_
 rintro e w4 ⟨rfl, g4⟩
 have R4 := R3.trans (Rg.gb (lo := go) (hi := gd + 1) g4 (by omega) (by omega))
 clear c4 g4
 go_wp2
 go_ret
 exact ⟨_, rfl, by omega, R4⟩
end Go.Proofs.YtcpnkpogebjieaaGreat
namespace Go.Proofs.YtcpnkpogebjieaaGreat
open Go Go.RowKit
structure Chg (M : Nat → Prop) (w w' : World) : Prop where
 os : w'.os = w.os
 tape : w'.tape = w.tape
 output : w'.output = w.output
 size : w.heap.size ≤ w'.heap.size
 block : ∀ k, k < w.heap.size → ¬ M k → w'.heap[k]? = w.heap[k]?
def more (M : Nat → Prop) (w w' : World) (k : Nat) : Prop := M k ∨ (w.heap.size ≤ k ∧ k < w'.heap.size)
end Go.Proofs.YtcpnkpogebjieaaGreat
