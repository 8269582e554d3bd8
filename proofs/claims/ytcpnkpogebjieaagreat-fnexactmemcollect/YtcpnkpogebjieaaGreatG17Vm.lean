/- The program's own coming to: the iterator, with what is handed on known. -/
import Derived.Stop.RegionWithIn
import Derived.Test.YtcpnkpogebjieaaGreatG13Rs2
import Derived.Test.YtcpnkpogebjieaaGreatG16Ri4
namespace Go.Proofs.YtcpnkpogebjieaaGreat
open Go.RowKit Go.Shelf
attribute [local go_sem] Oper.semAt_some
theorem traceF_prefix (os : List (Int × ByteArray × List Int)) (ds : List (Int × Int)) (f i : Nat) (l : List Int) : l <+: traceF os ds f i l := by
 induction f generalizing i l with
 | zero => exact List.prefix_refl _
 | succ f ih =>
   unfold traceF
   split
   · obtain ⟨t, ht⟩ := putAll_pre l (nextP os ds (l.getD i 0))
     refine List.IsPrefix.trans ?_ (ih _ _)
     rw [ht]
     exact List.prefix_append _ _
   · exact List.prefix_refl _
set_option maxHeartbeats 4000000 in
set_option maxRecDepth 100000 in
theorem comings1_seqG (h : Hp) (n Bh : Nat) (w0 w : World) (hn : 2 ≤ n) (hh : HpIn w0 h) (hw0 : Below w0.heap.size w0 w) (hs : Small h) (hok : okP h.p = true) (hcap : ∀ (i : Nat) (hi : i < h.os.length), h.os[i].r.length ≤ h.os[i].rcap)
   (hBh : Blk w Bh [Value.slice h.oa h.os.length h.ocap, Value.slice h.ra h.rs.length h.rcap, Value.slice h.wa h.ws.length h.wcap, Value.slice h.da h.ds.length h.dcap] 27) :
   SeqG (fun x : Int => #[Value.int .i64 x]) Fence.wide n Cut.prog 91 #[.pointer (some ⟨Bh, 0, none⟩)] (traceF (h.os.map Ob.p) h.ds 61 0 (putAll [] h.rs)) (fun k => k = Bh) w0.heap.size w := by
 have htr := okP_tr hok hs hcap
 have hrr := fun z hz => (refs_lt (okP_parts hok).2.2.2.2.1 z hz).2
 have hkd : ∀ i (hi : i < h.os.length), kindOk h.os[i].k h.os[i].t h.os[i].r.length = true := fun i hi => by
   have := (okP_parts hok).2.2.2.1 i hi
   simp only [objOk, Ob.p, Bool.and_eq_true] at this
   exact this.2
 have hn60 := htr.n60
 clear hok
 intro l J W hW hJ hY h0
 have HJ : Hid (∀ M pre A B, J M pre A → Chg M A B → J (more M A B) pre B) := hJ
 generalize hR : traceF (h.os.map Ob.p) h.ds 61 0 (putAll [] h.rs) = R at hY ⊢
 have HR : Hid (traceF (h.os.map Ob.p) h.ds 61 0 (putAll [] h.rs) = R) := hR
 have HY : Hid (∀ M pre x W1, J M pre W1 → pre ++ [x] <+: R → YieldAt Fence.wide (n - 1) Cut.prog l #[.int .i64 x] W1 fun e W' => e = .returned (.bool true) ∧ J M (pre ++ [x]) W' ∧ (∀ k, M k → W'.heap[k]? = W1.heap[k]?) ∧ Below w0.heap.size W1 W') := hY
 clear hR hY hJ
 have hro : Fence.wide.round = none := rfl
 have hn1 : 1 ≤ n := by omega
 have hn2 : 1 ≤ n - 1 := by omega
 refine callsIn_of_wp (Cut.func_of Tryz.func91 rfl) rfl trivial ?_ hro
 simp only [Tryz.ntmps91, List.size_toArray, List.length_cons, List.length_nil, Nat.reduceAdd, Nat.reduceSub, Array.replicate_succ, Array.replicate_zero, List.push_toArray, List.append_toArray, List.nil_append, List.cons_append]
 have hKW := hBh.below hW hBh.lt
 have hB0 : Below w0.heap.size w0 W := hw0.trans (hW.mono hw0.size)
 clear hBh hW hw0
 obtain ⟨x0, x1, x2, x3⟩ := cells4' hKW
 gi_wp2_with fail
 refine ⟨trivial, ?_⟩
 refine (callsIn_wide.2 (newBitSet_any h.os.length W hn60)).mono ?_
 rintro e w1 ⟨g, rfl, hb1, hgW, hg1⟩
 have hB1 := hB0.trans (hb1.mono hB0.size)
 have hK1 := hKW.below hb1 hKW.lt
 have hJ1 := HJ.out _ _ _ _ h0 (chg_below hb1 (Nat.le_refl _))
 have hBhlt := hKW.lt
 have hglt := hg1.lt
 have hW1 := hb1.size
 clear hb1 hKW x0 x1 x2 x3 h0
 obtain ⟨x0, x1, x2, x3⟩ := cells4' hK1
 have hBh1 := hK1.lt
 -- the world in which the roots are appended
 have bT : Below w1.heap.size w1 (w1.alloc (Obj.cells #[Value.slice (some ⟨g, 0, none⟩) ((h.os.length + 63) / 64) ((h.os.length + 63) / 64)] 117)) := (Below.refl _ _).alloc (Nat.le_refl _) _
 have kT := Blk.new w1 [Value.slice (some ⟨g, 0, none⟩) ((h.os.length + 63) / 64) ((h.os.length + 63) / 64)] 117
 have hB2 := hB1.trans (bT.mono hB1.size)
 have hK2 := hK1.below bT hK1.lt
 have hg2 := hg1.below bT hg1.lt
 have hJ2 := HJ.out _ _ _ _ hJ1 (chg_below bT (Nat.le_refl _))
 have hset2 : SetIn (w1.alloc (Obj.cells #[Value.slice (some ⟨g, 0, none⟩) ((h.os.length + 63) / 64) ((h.os.length + 63) / 64)] 117)) h.os.length g [] := fun hp => by
   have e1 : List.replicate ((h.os.length + 63) / 64) (Value.int .u64 0) = [Value.int .u64 0] := by rw [show (h.os.length + 63) / 64 = 1 by omega]; rfl
   rw [e1] at hg2
   exact ⟨0, by simpa using hg2, bits_zero⟩
 have hgn0 : w0.heap.size ≤ g := Nat.le_trans hB0.size hgW
 have c5 := appendNew_any (w1.heap.size + 1) g h.os.length (.slice none 0 0) [] h.ra h.rcap h.rs (w1.alloc (Obj.cells #[Value.slice (some ⟨g, 0, none⟩) ((h.os.length + 63) / 64) ((h.os.length + 63) / 64)] 117)) hn60 (World.ownsRow_nil _ _ _ _) (by simp) (by omega) hset2 (Places.nil _) ((hh.below hB2 (Nat.le_refl _)).sr) hs.r (AvI.none _ _) (hh.sr.av hgn0) hrr
 have hmm : ∀ k, (k = Bh ∨ k = g ∨ k = w1.heap.size) → more (more (fun k => k = Bh) W w1) w1 (w1.alloc (Obj.cells #[Value.slice (some ⟨g, 0, none⟩) ((h.os.length + 63) / 64) ((h.os.length + 63) / 64)] 117)) k := fun k hk => by
   rcases hk with rfl | rfl | rfl
   · exact Or.inl (Or.inl rfl)
   · exact Or.inl (Or.inr ⟨hgW, hglt⟩)
   · exact Or.inr ⟨Nat.le_refl _, by simp⟩
 generalize hM2 : more (more (fun k => k = Bh) W w1) w1 (w1.alloc (Obj.cells #[Value.slice (some ⟨g, 0, none⟩) ((h.os.length + 63) / 64) ((h.os.length + 63) / 64)] 117)) = M2 at hmm hJ2
 clear hM2 hJ1
 gi_wp2_with fail
 refine ⟨trivial, ?_⟩
 refine (callsIn_wide.2 c5).mono ?_
 rintro e w2 ⟨v, rfl, hown, hpl, hset, hgr, hob⟩
 have hJ3 := HJ.out _ _ _ _ hJ2 (chg_gr2 hgr (fun k e => by simp [Value.ownBlock] at e) (hmm g (Or.inr (Or.inl rfl))))
 have hrow3 : ∀ k, v.ownBlock = some k → more M2 (w1.alloc (Obj.cells #[Value.slice (some ⟨g, 0, none⟩) ((h.os.length + 63) / 64) ((h.os.length + 63) / 64)] 117)) w2 k := fun k e => by
   rcases hob with h1 | ⟨x, h1, h2⟩
   · rw [h1] at e; simp [Value.ownBlock] at e
   · rw [h1] at e; simp at e; subst e; exact Or.inr ⟨h2, (hown.lt _ h1).2⟩
 have hmm3 : ∀ k, (k = Bh ∨ k = g ∨ k = w1.heap.size) → more M2 (w1.alloc (Obj.cells #[Value.slice (some ⟨g, 0, none⟩) ((h.os.length + 63) / 64) ((h.os.length + 63) / 64)] 117)) w2 k := fun k hk => Or.inl (hmm k hk)
 generalize hM3 : more M2 (w1.alloc (Obj.cells #[Value.slice (some ⟨g, 0, none⟩) ((h.os.length + 63) / 64) ((h.os.length + 63) / 64)] 117)) w2 = M3 at hmm3 hJ3 hrow3
 have hgn : g ≠ Bh := by omega
 have hB3 : Below w0.heap.size w0 w2 := hB2.trans (hgr.below hB2.size (fun k e => by simp [Value.ownBlock] at e) hgn0)
 have hK3 := hK2.gr2 hgr (by simp [Value.ownBlock]) (Ne.symm hgn)
 have kT3 := kT.gr2 hgr (by simp [Value.ownBlock]) (by omega)
 have hbase : w0.heap.size ≤ w1.heap.size := hB1.size
 clear hM3 hmm hJ2 c5 hset2 hgr hob hB2 hK2 hg2 kT bT x0 x1 x2 x3 hK1 hg1 hB1
 gi_wp2
 gi_loopw [4, 5] (fun v i wr => ∃ (k f : Nat) (l : List Int) (M : Nat → Prop), i = .int .i64 k ∧ k ≤ h.os.length ∧ k ≤ l.length ∧ OwnL wr (w1.heap.size + 1) v l ∧ Places h.os.length l ∧ SetIn wr h.os.length g l ∧ traceF (h.os.map Ob.p) h.ds f k l = R ∧ h.os.length ≤ k + f ∧ J M (l.take k) wr ∧ (∀ x, v.ownBlock = some x → M x) ∧ (∀ x, (x = Bh ∨ x = g ∨ x = w1.heap.size) → M x) ∧ Below w0.heap.size w0 wr ∧ Blk wr Bh [Value.slice h.oa h.os.length h.ocap, Value.slice h.ra h.rs.length h.rcap, Value.slice h.wa h.ws.length h.wcap, Value.slice h.da h.ds.length h.dcap] 27 ∧ Blk wr w1.heap.size [Value.slice (some ⟨g, 0, none⟩) ((h.os.length + 63) / 64) ((h.os.length + 63) / 64)] 117) (fun _ i _ => h.os.length - (intOf i).toNat)
 case atStart => exact ⟨0, 61, _, M3, rfl, Nat.zero_le _, Nat.zero_le _, hown, hpl, hset, HR.out, by omega, hJ3, hrow3, hmm3, hB3, hK3, kT3⟩
 case round =>
   obtain ⟨k, f, ls, M, rfl, hkn, hkl, hown, hpl, hset, htr2, hkf, hJr, hrow, hmm, hB, hK, kT⟩ := hrel
   clear hJ3 hrow3 hmm3 hB3 hK3 kT3
   have HT : Hid (traceF (h.os.map Ob.p) h.ds f k ls = R) := htr2
   clear htr2
   have hll := hpl.len
   obtain ⟨va, vcap, rfl, hseg, -⟩ := hown.form
   by_cases hlt : k < ls.length
   · obtain ⟨f', rfl⟩ : ∃ f', f = f' + 1 := ⟨f - 1, by omega⟩
     have hx := hpl.rng ls[k] (List.getElem_mem hlt)
     have hpre : ls <+: R := by rw [← HT.out]; exact traceF_prefix _ _ _ _ _
     have HT2 : Hid (traceF (h.os.map Ob.p) h.ds f' (k + 1) (putAll ls (nextP (h.os.map Ob.p) h.ds ls[k])) = R) := by
       have := HT.out
       unfold traceF at this
       rw [if_pos hlt] at this
       have e : ls.getD k 0 = ls[k] := by simp [List.getD, List.getElem?_eq_getElem hlt]
       rw [e] at this
       exact this
     obtain ⟨b, off, rfl, hbw, c1⟩ := hseg.get hlt
     have hi1 : (k : Int) < (ls.length : Int) := by omega
     obtain ⟨fn, tmps, assign, body, hy, hRd⟩ := HY.out M (ls.take k) ls[k] wr hJr (by rw [← List.take_succ_eq_append_getElem hlt]; exact (List.take_prefix _ _).trans hpre)
     clear HT
     gi_wp2
     refine hRd.mono ?_
     rintro e W3 ⟨rfl, hJ3, hsame, hb3⟩
     have etk : ls.take k ++ [ls[k]] = ls.take (k + 1) := (List.take_succ_eq_append_getElem hlt).symm
     rw [etk] at hJ3
     have hown3 := hown.same (w' := W3) (fun x e => hsame x (hrow x e))
     have hset3 : SetIn W3 h.os.length g ls := fun hp => by
       obtain ⟨X, h1, h2⟩ := hset hp
       exact ⟨X, h1.same (hsame g (hmm g (Or.inr (Or.inl rfl)))), h2⟩
     have hK3 := hK.same (hsame Bh (hmm Bh (Or.inl rfl)))
     have kT3 := kT.same (hsame w1.heap.size (hmm w1.heap.size (Or.inr (Or.inr rfl))))
     have hB3 := hB.trans hb3
     clear etk hsame hb3 hown hset hK kT hB hJr hRd hy c1 hbw hseg fn tmps assign body
     have hdr : Below W3.heap.size W3 W3.drew := (Below.refl _ _).drew
     have hB4 := hB3.trans (hdr.mono hB3.size)
     have hin4 := hh.below hB4 (Nat.le_refl _)
     have c2 := leadsTo_any h ls[k] W3.drew hin4 hs hx.1 hx.2 hkd
     simp only [Hp.v] at c2
     have hnx := htr.nx ls[k]
     have hnl := htr.nl ls[k]
     generalize nextP (h.os.map Ob.p) h.ds ls[k] = nx at c2 HT2 hnx hnl
     have hkn2 : k < h.os.length := by omega
     obtain ⟨x0, x1, x2, x3⟩ := cells4' hK3
     have y0 := kT3.cell 0
     simp only [List.getElem?_cons_zero] at y0
     obtain ⟨va2, vcap2, ev2, hseg3, -⟩ := hown3.form
     have hva : va2 = some ⟨b, off, none⟩ := by simp at ev2; exact ev2.1.symm
     subst hva
     clear ev2
     obtain ⟨b9, off9, e9, _, c1⟩ := hseg3.get hlt
     have e9' : b9 = b ∧ off9 = off := by simp at e9; exact ⟨e9.1.symm, e9.2.symm⟩
     obtain ⟨rfl, rfl⟩ := e9'
     have hgT : g < W3.heap.size := by have := kT3.lt; omega
     have hvav : HpAv h (Value.slice (some ⟨b9, off9, none⟩) ls.length vcap).ownBlock := by
       cases e : (Value.slice (some ⟨b9, off9, none⟩) ls.length vcap).ownBlock with
       | none => exact HpAv.none h
       | some x => have := (hown3.lt x e).1; exact hh.av (by omega)
     have hgav : HpAv h (some g) := hh.av hgn0
     have hbS : w1.heap.size + 1 ≤ W3.heap.size := kT3.lt
     clear e9 hseg3
     have K6 : Hid (∀ (w4 : World) (na : Option Addr) (ncap : Nat), SegI w4 na nx → Below W3.drew.heap.size W3.drew w4 → (∀ r, HpAv h r → (∀ g, r = some g → g < W3.drew.heap.size) → AvI na nx.length r) →
         Calls Cut.prog 93 #[.slice (some ⟨b9, off9, none⟩) ls.length vcap, .slice na nx.length ncap, .agg #[.slice (some ⟨g, 0, none⟩) ((h.os.length + 63) / 64) ((h.os.length + 63) / 64)]] w4 fun e w' => ∃ v', e = .returned v' ∧ OwnL w' (w1.heap.size + 1) v' (putAll ls nx) ∧ Places h.os.length (putAll ls nx) ∧ SetIn w' h.os.length g (putAll ls nx) ∧ Gr2 w4 w' (Value.slice (some ⟨b9, off9, none⟩) ls.length vcap).ownBlock g ∧ (v'.ownBlock = (Value.slice (some ⟨b9, off9, none⟩) ls.length vcap).ownBlock ∨ ∃ x, v'.ownBlock = some x ∧ w4.heap.size ≤ x)) := fun w4 na ncap hsg hbl hav => by
       have hst := hdr.trans hbl
       exact appendNew_any (w1.heap.size + 1) g h.os.length _ ls na ncap nx w4 hn60 (hown3.below hst (Nat.le_refl _)) (Nat.le_trans hbS hst.size) (by omega) (fun hp => by obtain ⟨X, h1, h2⟩ := hset3 hp; exact ⟨X, h1.below hst h1.lt, h2⟩) hpl hsg hnl (hav _ hvav (fun x e => (hown3.lt x e).2)) (hav _ hgav (fun x e => by cases e; exact hgT)) hnx
     gi_wp2_with fail
     gi_region_with (first
       | (refine ⟨trivial, ?_⟩; gi_at_call 94; refine (callsIn_wide.2 c2).mono ?_; rintro e w4 ⟨nv, rfl, na, ncap, ⟨rfl, hnseg, hnb, hnav⟩⟩; have kT4 := (kT3.below hdr kT3.lt).below hnb kT3.lt; have y4 := kT4.cell 0; simp only [List.getElem?_cons_zero] at y4)
       | (refine ⟨trivial, ?_⟩; gi_at_call 93; refine (callsIn_wide.2 (K6.out _ _ _ hnseg hnb hnav)).mono ?_; rintro e w5 ⟨v', rfl, hown5, hpl5, hset5, hgr5, hob5⟩))
     all_goals
       have hst := hdr.trans hnb
       have hJ5 := HJ.out _ _ _ _ (HJ.out _ _ _ _ hJ3 (chg_below hst (Nat.le_refl _))) (chg_gr2 hgr5 (fun x e => Or.inl (hrow x e)) (Or.inl (hmm g (Or.inr (Or.inl rfl)))))
       rw [← putAll_take ls nx (k + 1) hlt] at hJ5
       have hrow5 : ∀ x, v'.ownBlock = some x → more (more M W3 w4) w4 w5 x := fun x e => by
         rcases hob5 with h1 | ⟨y, h1, h2⟩
         · rw [h1] at e; exact Or.inl (Or.inl (hrow x e))
         · rw [h1] at e; cases e; exact Or.inr ⟨h2, (hown5.lt _ h1).2⟩
       have hmm5 : ∀ x, (x = Bh ∨ x = g ∨ x = w1.heap.size) → more (more M W3 w4) w4 w5 x := fun x hx => Or.inl (Or.inl (hmm x hx))
       have hq1 := hB3.trans (hst.mono hB3.size)
       have hB5 : Below w0.heap.size w0 w5 := hq1.trans (hgr5.below hq1.size (fun x e => by have := (hown3.lt x e).1; omega) hgn0)
       have hK5 := (hK3.below hst hK3.lt).gr2 hgr5 (hown3.ne hK3 (by decide)) (Ne.symm hgn)
       have kT5 := (kT3.below hst kT3.lt).gr2 hgr5 (hown3.ne kT3 (by decide)) (by omega)
       have hl5 := putAll_le ls nx
       clear c2 K6 hgr5 hob5 hnb hnav hnseg hst hq1 hJ3 hown3 hset3 hK3 kT3 hB3 hdr hB4 hin4 hvav hgav x0 x1 x2 x3 y0 c1
       gi_wp2
       go_roundw
       case rel => exact ⟨k + 1, f', putAll ls nx, _, by go_num, by omega, by omega, hown5, hpl5, hset5, HT2.out, by omega, hJ5, hrow5, hmm5, hB5, hK5, kT5⟩
       case measure => simp [intOf]; omega
   · have e : R = ls := by
       have := HT.out
       rw [← this]
       cases f with
       | zero => rfl
       | succ f => unfold traceF; rw [if_neg hlt]
     have e2 : ls.take k = ls := List.take_of_length_le (by omega)
     rw [e2, ← e] at hJr
     gi_wp2
     go_end0
     exact ⟨⟨_, rfl⟩, M, hJr⟩
end Go.Proofs.YtcpnkpogebjieaaGreat
