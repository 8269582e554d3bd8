/- Walks in company through the library's sync.WaitGroup, where others may allot memory: -/
import Derived.Conc.WgGenN3
import Derived.Test.YtcpnkpogebjieaaGreatG07Za
import Derived.Conc.Beside
import Derived.Conc.CrowdComm
import Derived.Conc.CrowdCom2
import Derived.Test.YtcpnkpogebjieaaGreatG06Tw
import Derived.WalkKit
import Derived.WalkSpells
import Derived.WalkLawsBesides
open Nat renaming zero_add→Qhp,le_refl→Qhq,lt_of_lt_of_le→Qhr,eq_zero_or_pos→Qhv
open Array renaming getElem?_setIfInBounds_ne→Qhs,getElem?_eq_getElem→Qht,getElem?_setIfInBounds_self_of_lt→Qhu,getElem?_map→Qhw
open List renaming getElem?_eq_getElem→Qhx
set_option maxRecDepth 100000
set_option maxHeartbeats 16000000
namespace Go.Proofs.YtcpnkpogebjieaaGreat
namespace Co
open Go.Conc Go.ConcR Go.ConcN Go.RowKit Go.Conc.Lib Go.ConcR.Gen
set_option linter.unusedSimpArgs false
def VF (L:WgLink)(Wg:Nat)(c:Frame)(cs:List Frame)(g:Goroutine)(w:World):Prop:=
 ∃T:Array Value,g=G ((base L.wait).at ⟨T,[]⟩ [.code (Go.ConcR.Gen.L7 L),.inLoop (Go.ConcR.Gen.L7 L),.inBlock 0]) (c::cs)∧T.size=84∧T[0]? =some (.pointer (some ⟨Wg,0,none⟩))∧WgLive L.tWg Wg w
section
variable {P:Program} {L:WgLink} {Wg:Nat}
theorem Qgm (H:WgLib P L){c:Frame}{cs:List Frame}(w:World)(hF:WgLive L.tWg Wg w):
 Sil P L.tWg Wg (ZL P .disable (Sil P L.tWg Wg (VF L Wg c cs))) (G (Frame.enter P L.wait #[.pointer (some ⟨Wg,0,none⟩)] .normal) (c::cs)) w:=by
 have e:Frame.enter P L.wait #[.pointer (some ⟨Wg,0,none⟩)] .normal=(base L.wait).at ⟨#[.pointer (some ⟨Wg,0,none⟩)]++Array.replicate 83 undef,[]⟩ [.code ((waitFn L).body.getD .skip)]:=by
  simp[Frame.enter,H.f_wait,waitFn,base,Frame.at]
 rw[e]
 simp only[Array.replicate,List.replicate,List.append_toArray,List.cons_append,List.nil_append]
 lib_facts
 simp only[body_wait,waitFn,Option.getD_some]
 refine⟨5,?_⟩
 u_c stepG_seq rl hF
 u_cond true rl hF
 u_reg rl hF
 refine Goes.stop (fun w1 h1=>?_)
 replace hF:=rl hF h1
 clear h1
 refine⟨rfl,_,stepG_mark0 .disable (by simp) rfl rfl (by k_ne) rfl H.f_disable (x_disable_n L) (x_disable_b L) (x_disable_x L) (x_disable_f L),5,?_⟩
 walk_nrm
 u_c stepG_region_end rl hF
 u_c stepG_block rl hF
 u_c stepG_loop rl hF
 exact Goes.stop (fun w₂ h₂=>⟨_,rfl,by simp,by simp,rl hF h₂⟩)
theorem Qcw (H:WgLib P L){c:Frame}{cs:List Frame}(g:Goroutine)(w:World)(h:VF L Wg c cs g w):
 Sil P L.tWg Wg (J1 P L.tWg Wg (VF L Wg c cs) (Kf L.tWg Wg c cs)) g w:=by
 lib_facts
 obtain⟨T,rfl,hT84,t0,hF⟩:=h
 obtain⟨v0,v1,v2,v3,v4,v5,v6,v7,v8,v9,v10,v11,v12,v13,v14,v15,v16,v17,v18,v19,v20,v21,v22,v23,v24,v25,v26,v27,v28,v29,v30,v31,v32,v33,v34,v35,v36,v37,v38,v39,v40,v41,v42,v43,v44,v45,v46,v47,v48,v49,v50,v51,v52,v53,v54,v55,v56,v57,v58,v59,v60,v61,v62,v63,v64,v65,v66,v67,v68,v69,v70,v71,v72,v73,v74,v75,v76,v77,v78,v79,v80,v81,v82,v83,rfl⟩:=Go.ConcR.Gen.array84 T hT84
 simp only[List.getElem?_toArray,List.getElem?_cons_zero,Option.some.injEq]at t0
 subst t0
 refine⟨40,?_⟩
 simp only[Go.ConcR.Gen.L7,body_wait,waitFn,Option.getD_some]
 repeat first
  |u_c stepG_seq rl hF
  |u_c stepG_region_end rl hF
  |u_c stepG_skip rl hF
  |u_c stepG_block rl hF
  |u_c stepG_inBlock rl hF
  |u_c stepG_inLoop rl hF
  |u_c stepG_loop rl hF
  |u_exit rl hF
  |u_cond true rl hF
  |u_cond false rl hF
  |u_cnd true rl hF
  |u_cnd false rl hF
  |u_reg rl hF
  |u_skip rl hF
  |u_call H.f_uLoad (nm_uLoad L) uLoadFn rl hF
  |u_op rl hF
 refine Goes.stop (fun w1 h1=>?_)
 replace hF:=rl hF h1
 clear h1
 refine⟨rfl,fun v hv hw=>?_⟩
 rcases Qhv v with rfl|hvp
 ·replace hw:WgAt L.tWg Wg w1 0 0:=by simpa using hw
  refine⟨_,stepG_load_atomic (v:=0) rfl rfl (by k_ne) rfl H.f_loadU64 (x_loadU64_n L) (x_loadU64_b L) (x_loadU64_x L) .u64 (x_loadU64_f L) rfl hw.cellSt,fun _=>⟨60,?_⟩,fun h=>absurd rfl h⟩
  clear hw
  walk_nrm
  u_op rl hF
  u_c stepG_region_end rl hF
  u_c stepG_ret' rl hF
  u_leave1 H.f_uLoad rl hF
  repeat first
   |u_c stepG_seq rl hF
   |u_c stepG_region_end rl hF
   |u_c stepG_skip rl hF
   |u_c stepG_block rl hF
   |u_c stepG_inBlock rl hF
   |u_c stepG_inLoop rl hF
   |u_c stepG_loop rl hF
   |u_exit rl hF
   |u_cond true rl hF
   |u_cond false rl hF
   |u_cnd true rl hF
   |u_cnd false rl hF
   |u_reg rl hF
   |u_skip rl hF
   |u_op rl hF
  refine Goes.stop (fun w5 h5=>?_)
  replace hF:=rl hF h5
  clear h5
  refine⟨rfl,_,stepG_mark0 .enable (by simp) rfl rfl (by k_ne) rfl H.f_enable (x_enable_n L) (x_enable_b L) (x_enable_x L) (x_enable_f L),20,?_⟩
  walk_nrm
  u_c stepG_region_end rl hF
  u_reg rl hF
  u_op rl hF
  u_conv H.underlying_tWgP H.room_tWg (Go.ConcN.Gen.WgLive.cell0 hF).choose_spec rl hF
  refine Goes.stop (fun w6 h6=>?_)
  replace hF:=rl hF h6
  clear h6
  refine⟨rfl,_,stepG_markAt .acquire (by simp) rfl rfl (by k_ne) rfl H.f_acquire (x_acquire_n L) (x_acquire_b L) (x_acquire_x L) (x_acquire_f L) (by simp[Act.eval,stA]),60,?_⟩
  walk_nrm
  repeat first
   |u_c stepG_seq rl hF
   |u_c stepG_region_end rl hF
   |u_c stepG_skip rl hF
   |u_c stepG_block rl hF
   |u_c stepG_inBlock rl hF
   |u_c stepG_inLoop rl hF
   |u_c stepG_loop rl hF
   |u_exit rl hF
   |u_cond true rl hF
   |u_cond false rl hF
   |u_cnd true rl hF
   |u_cnd false rl hF
   |u_reg rl hF
   |u_skip rl hF
   |u_op rl hF
  u_c stepG_ret' rl hF
  u_in rl hF
  rw[stepG_leave rfl rfl H.f_wait (results_none rfl _ P _) (events_results_none rfl _ _)]
  simp only[goes_go]
  refine⟨by u_nil,?_⟩
  exact Goes.stop (fun w9 h9=>⟨rfl,rl hF h9⟩)
 ·obtain⟨Z,hZ⟩:∃Z:Int,(v:Int)*KK=Z:=⟨_,rfl⟩
  have a1:Z/4294967296=(v:Int):=by rw[←hZ];simp only[KK];omega
  have b1:bits .and .u64 Z 2147483648=0:=by rw[←hZ];have:=st_flag v 0 (by omega) (by omega);simpa[KK]using this
  have b2:bits .and .u64 Z 2147483647=0:=by rw[←hZ];have:=st_waiters v 0 (by omega) (by omega);simpa[KK]using this
  have c1:IntKind.i32.wrap (v:Int)=(v:Int):=by rw[IntKind.wrap_i32];omega
  have d1:IntKind.u64.wrap (Z+1)=Z+1:=by rw[IntKind.wrap_u64,←hZ];simp only[KK];omega
  have q3:decide ((v:Int)<0)=false:=decide_eq_false (by omega)
  have q4:decide (0<(v:Int))=true:=decide_eq_true (by omega)
  have q5:((v:Int)==0)=false:=by simp;omega
  have q6:decide ((v:Int)=0)=false:=decide_eq_false (by omega)
  rw[hZ]at hw
  refine⟨_,stepG_load_atomic (v:=Z) rfl rfl (by k_ne) rfl H.f_loadU64 (x_loadU64_n L) (x_loadU64_b L) (x_loadU64_x L) .u64 (x_loadU64_f L) rfl hw.cellSt,fun h0=>absurd h0 (by omega),fun _=>⟨100,?_⟩⟩
  clear hw
  walk_nrm
  u_op rl hF
  u_c stepG_region_end rl hF
  u_c stepG_ret' rl hF
  u_leave1 H.f_uLoad rl hF
  repeat first
   |u_c stepG_seq rl hF
   |u_c stepG_region_end rl hF
   |u_c stepG_skip rl hF
   |u_c stepG_block rl hF
   |u_c stepG_inBlock rl hF
   |u_c stepG_inLoop rl hF
   |u_c stepG_loop rl hF
   |u_exit rl hF
   |u_cond true rl hF
   |u_cond false rl hF
   |u_cnd true rl hF
   |u_cnd false rl hF
   |u_reg rl hF
   |u_skip rl hF
   |u_call H.f_uCas (nm_uCas L) uCasFn rl hF
   |u_op rl hF
  refine Goes.stop (fun w2 h2=>?_)
  replace hF:=rl hF h2
  clear h2
  refine⟨rfl,fun v' hv' hw=>⟨fun e=>?_,fun e=>?_⟩⟩
  ·subst e
   rw[hZ]at hw⊢
   refine⟨_,(stepG_cas_hit (v:=Z) (n:=Z+1) rfl rfl (by k_ne) rfl H.f_casU64 (x_casU64_n L) (x_casU64_b L) (x_casU64_x L) .u64 (x_casU64_f L) rfl rfl rfl hw.cellSt (hw.thaw 0)).trans (by rfl),100,?_⟩
   replace hF:WgLive L.tWg Wg (w2.setCell (stA Wg) (.int .u64 (Z+1))):=⟨_,_,hw.setSt _⟩
   clear hw
   walk_nrm
   u_op rl hF
   u_c stepG_region_end rl hF
   u_c stepG_ret' rl hF
   u_leave1 H.f_uCas rl hF
   repeat first
    |u_c stepG_seq rl hF
    |u_c stepG_region_end rl hF
    |u_c stepG_skip rl hF
    |u_c stepG_block rl hF
    |u_c stepG_inBlock rl hF
    |u_c stepG_inLoop rl hF
    |u_c stepG_loop rl hF
    |u_exit rl hF
    |u_cond true rl hF
    |u_cond false rl hF
    |u_cnd true rl hF
    |u_cnd false rl hF
    |u_reg rl hF
    |u_skip rl hF
    |u_op rl hF
   u_conv H.underlying_tPU32 H.room_tU32 (Go.ConcN.Gen.WgLive.cell1 hF).choose_spec rl hF
   refine Goes.stop (fun w3 h3=>?_)
   replace hF:=rl hF h3
   clear h3
   refine⟨rfl,_,stepG_markAt .write (by simp) rfl rfl (by k_ne) rfl H.f_raceWrite (x_raceWrite_n L) (x_raceWrite_b L) (x_raceWrite_x L) (x_raceWrite_f L) (ad:=⟨Wg,1,none⟩) (by simp[Act.eval]),80,?_⟩
   walk_nrm
   repeat first
    |u_c stepG_seq rl hF
    |u_c stepG_region_end rl hF
    |u_c stepG_skip rl hF
    |u_c stepG_block rl hF
    |u_c stepG_inBlock rl hF
    |u_c stepG_inLoop rl hF
    |u_c stepG_loop rl hF
    |u_exit rl hF
    |u_cond true rl hF
    |u_cond false rl hF
    |u_cnd true rl hF
    |u_cnd false rl hF
    |u_reg rl hF
    |u_skip rl hF
    |u_op rl hF
   refine Goes.stop (fun w4 h4=>?_)
   replace hF:=rl hF h4
   clear h4
   refine⟨rfl,rfl,fun⟨st,hw⟩=>stepG_semacquire_wait rfl rfl rfl H.f_semacquire (x_semacquire_n L) (x_semacquire_b L) (x_semacquire_x L) (x_semacquire_f L) (by simp[Act.eval,smA]) hw.cellSm,fun hf=>?_⟩
   refine⟨_,(stepG_semacquire (n:=1) rfl rfl (by k_ne) rfl H.f_semacquire (x_semacquire_n L) (x_semacquire_b L) (x_semacquire_x L) (x_semacquire_f L) (by simp[Act.eval,smA]) hf.cellSm (by k_ne) (hf.thaw 1)).trans (by rfl),60,?_⟩
   replace hF:WgLive L.tWg Wg (w4.setCell (smA Wg) (.int .u32 0)):=⟨_,_,hf.setSm 0⟩
   clear hf
   walk_nrm
   repeat first
    |u_c stepG_seq rl hF
    |u_c stepG_region_end rl hF
    |u_c stepG_skip rl hF
    |u_c stepG_block rl hF
    |u_c stepG_inBlock rl hF
    |u_c stepG_inLoop rl hF
    |u_c stepG_loop rl hF
    |u_exit rl hF
    |u_cond true rl hF
    |u_cond false rl hF
    |u_cnd true rl hF
    |u_cnd false rl hF
    |u_reg rl hF
    |u_skip rl hF
    |u_call H.f_uLoad (nm_uLoad L) uLoadFn rl hF
    |u_op rl hF
   refine Goes.stop (fun w6 h6=>?_)
   replace hF:=rl hF h6
   clear h6
   refine⟨rfl,fun hw=>⟨_,stepG_load_atomic (v:=0) rfl rfl (by k_ne) rfl H.f_loadU64 (x_loadU64_n L) (x_loadU64_b L) (x_loadU64_x L) .u64 (x_loadU64_f L) rfl hw.cellSt,60,?_⟩⟩
   clear hw
   walk_nrm
   u_op rl hF
   u_c stepG_region_end rl hF
   u_c stepG_ret' rl hF
   u_leave1 H.f_uLoad rl hF
   repeat first
    |u_c stepG_seq rl hF
    |u_c stepG_region_end rl hF
    |u_c stepG_skip rl hF
    |u_c stepG_block rl hF
    |u_c stepG_inBlock rl hF
    |u_c stepG_inLoop rl hF
    |u_c stepG_loop rl hF
    |u_exit rl hF
    |u_cond true rl hF
    |u_cond false rl hF
    |u_cnd true rl hF
    |u_cnd false rl hF
    |u_reg rl hF
    |u_skip rl hF
    |u_op rl hF
   refine Goes.stop (fun w7 h7=>?_)
   replace hF:=rl hF h7
   clear h7
   refine⟨rfl,_,stepG_mark0 .enable (by simp) rfl rfl (by k_ne) rfl H.f_enable (x_enable_n L) (x_enable_b L) (x_enable_x L) (x_enable_f L),20,?_⟩
   walk_nrm
   u_c stepG_region_end rl hF
   u_reg rl hF
   u_op rl hF
   u_conv H.underlying_tWgP H.room_tWg (Go.ConcN.Gen.WgLive.cell0 hF).choose_spec rl hF
   refine Goes.stop (fun w8 h8=>?_)
   replace hF:=rl hF h8
   clear h8
   refine⟨rfl,_,stepG_markAt .acquire (by simp) rfl rfl (by k_ne) rfl H.f_acquire (x_acquire_n L) (x_acquire_b L) (x_acquire_x L) (x_acquire_f L) (by simp[Act.eval,stA]),60,?_⟩
   walk_nrm
   repeat first
    |u_c stepG_seq rl hF
    |u_c stepG_region_end rl hF
    |u_c stepG_skip rl hF
    |u_c stepG_block rl hF
    |u_c stepG_inBlock rl hF
    |u_c stepG_inLoop rl hF
    |u_c stepG_loop rl hF
    |u_exit rl hF
    |u_cond true rl hF
    |u_cond false rl hF
    |u_cnd true rl hF
    |u_cnd false rl hF
    |u_reg rl hF
    |u_skip rl hF
    |u_op rl hF
   u_c stepG_ret' rl hF
   u_in rl hF
   rw[stepG_leave rfl rfl H.f_wait (results_none rfl _ P _) (events_results_none rfl _ _)]
   simp only[goes_go]
   refine⟨by u_nil,?_⟩
   exact Goes.stop (fun w9 h9=>⟨rfl,rl hF h9⟩)
  ·refine⟨_,stepG_cas_miss (v:=(v':Int)*KK) (old:=Z) (n:=Z+1) rfl rfl (by k_ne) rfl H.f_casU64 (x_casU64_n L) (x_casU64_b L) (x_casU64_x L) .u64 (x_casU64_f L) rfl rfl rfl hw.cellSt (hw.thaw 0) (by rw[←hZ];simp only[KK];omega),30,?_⟩
   clear hw
   walk_nrm
   u_op rl hF
   u_c stepG_region_end rl hF
   u_c stepG_ret' rl hF
   u_leave1 H.f_uCas rl hF
   u_c stepG_region_end rl hF
   u_cond false rl hF
   u_c stepG_skip rl hF
   u_c stepG_inBlock rl hF
   u_c stepG_inLoop rl hF
   exact Goes.stop (fun w5 h5=>⟨_,rfl,by simp,by simp,rl hF h5⟩)
end
end Co
namespace Co
def OO (a b:World):Prop:=a.os=b.os∧a.output=b.output
theorem OO.refl (w:World):OO w w:=⟨rfl,rfl⟩
theorem OO.trans {a b c:World}(h:OO a b)(k:OO b c):OO a c:=⟨h.1.trans k.1,h.2.trans k.2⟩
end Co
namespace Co
open Go.Conc Go.ConcN
inductive Qt (P:Program) (X:Nat→Bool) (Ch:Nat) (Fin:Goroutine→World→Prop):Goroutine→World→Prop
 |stop {g:Goroutine} {w:World}:Fin g w→Qt P X Ch Fin g w
 |step {g:Goroutine} {w:World}:g.status=.running→(∀d,∃g' w' es,stepG P true g (w.at d)=.go g' w' es∧w.heap.size≤w'.heap.size∧∀B,w'.heap.size≤B→∀e∈es,Ev X B e)→(∀d g' w' es,stepG P true g (w.at d)=.go g' w' es→Qt P X Ch Fin g' w')→Qt P X Ch Fin g w
 |buf {g g2:Goroutine} {w:World} {z:Value} {cap s r:Nat} {b:Array Value} {closed tm:Bool}:g.status=.running→(∀d,stepG P true g (w.at d)=.comm g2 #[rcase Ch z] true (.recv true) (w.at d) #[])→w.heap[Ch]? =some (.chan cap b closed s r tm)→0<b.size→
   (∀d,Qt P X Ch Fin (g2.finishComm P #[rcase Ch z] (.recv true) 0 (b.getD 0 undef) true) ((w.at d).setChan Ch cap (b.extract 1 b.size) closed s (r+1) tm))→Qt P X Ch Fin g w
 |shut {g g2:Goroutine} {w:World} {z:Value} {cap s r:Nat} {tm:Bool}:g.status=.running→(∀d,stepG P true g (w.at d)=.comm g2 #[rcase Ch z] true (.recv true) (w.at d) #[])→w.heap[Ch]? =some (.chan cap #[] true s r tm)→
   (∀d,Qt P X Ch Fin (g2.finishComm P #[rcase Ch z] (.recv true) 0 z false) (w.at d))→Qt P X Ch Fin g w
theorem Kd {P:Program}{X:Nat→Bool}{Ch:Nat}{Fin Fin':Goroutine→World→Prop}{g:Goroutine}{w:World}(h:Way P X Fin g w)(k:∀g w,Fin g w→Qt P X Ch Fin' g w):Qt P X Ch Fin' g w:=by
 induction h with
 |stop h=>exact k _ _ h
 |step hr h1 _ ih=>exact .step hr h1 ih
def KW (P:Program)(Fin:Goroutine→World→Prop)(Shun:Loc→Prop)(I:Nat→Trace→Prop)(gs:Array Goroutine)(w:World)(sl:Option (Nat×Nat))(t:Trace):Prop:=
 ∃(N:Nat) (gs':Array Goroutine) (a':Goroutine) (w':World) (sl':Option (Nat×Nat)) (t':Trace) (q':Nat→Nat) (B':Nat),
  runNT P N (crowd gs w sl) t=(.next (crowd gs' w' sl'),t')∧gs'.size=gs.size∧gs'[0]? =some a'∧Fin a' w'∧Leavers P t' gs' q'∧Past Shun B' t'∧I w'.heap.size t'
theorem VS {P:Program}{Fin:Goroutine→World→Prop}{Shun:Loc→Prop}{I:Nat→Trace→Prop}{n0:Nat}(hIm:∀n t g es fn pos,I n t→g≠0→g<n0→(∀e∈es,Event.mute e=true)→I n (t++MemOp.ofEvents g fn pos es)){a:Goroutine}{w:World}(hrun:a.status=.running)
 (move:∀(d:Nat) (gs:Array Goroutine) (sl:Option (Nat×Nat)) (t:Trace) (q:Nat→Nat) (B:Nat),gs.size=n0→gs[0]? =some a→Leavers P t gs q→Past Shun B t→I w.heap.size t→
   ∃m ops,runT P (crowd gs (w.at d) sl) 0=(.next m,ops)∧∃gs' w' sl',m=crowd gs' w' sl'∧gs'.size=n0∧KW P Fin Shun I gs' w' sl' (t++ops)):
 ∀(M:Nat) (w0:World) (gs:Array Goroutine) (sl:Option (Nat×Nat)) (t:Trace) (q:Nat→Nat) (B:Nat),(∃d,w0=w.at d)→sumTo gs.size q≤M→gs.size=n0→gs[0]? =some a→Leavers P t gs q→Past Shun B t→I w.heap.size t→KW P Fin Shun I gs w0 sl t:=by
 intro M
 induction M using Nat.strongRecOn with
 |_ M ihM=>
 rintro w0 gs sl t q B ⟨d0,rfl⟩ hM hn0 h0 hL hP hI
 have haw:∀g∈gs,awake g:=by
  intro g hg
  obtain⟨i,hi,rfl⟩:=Array.mem_iff_getElem.1 hg
  rcases Qhv i with rfl|hpos
  ·have:gs[0]=a:=by simpa[Qht hi]using h0
   rw[this];exact awake_of (.inl hrun)
  ·exact awake_of ((hL.old i _ hpos (Qht hi)).status.elim .inl fun x=>.inr (.inr x))
 obtain⟨i,g,d,sl',hi,hg,hst⟩:=crowd_pick (P:=P) (w:=w.at d0) (sl:=sl) haw ⟨0,a,h0,hrun⟩
 rcases Qhv i with rfl|hpos
 ·obtain⟨m,ops,hr,gs',w',sl'',rfl,hsz,N,gs2,a2,w2,sl2,t2,q2,B2,hr2,hs2,h02,hF,hL2,hP2,hI2⟩:=move d gs sl' t q B hn0 h0 hL hP hI
  have hst':stepT P (crowd gs (w.at d0) sl)=(.next (crowd gs' w' sl''),ops):=hst.trans hr
  exact⟨N+1,gs2,a2,w2,sl2,t2,q2,B2,by simp only[runNT,hst'];exact hr2,by omega,h02,hF,hL2,hP2,hI2⟩
 ·have hq:=hL.old i g hpos hi
  have hi0:(i ==0)=false:=by simp;omega
  have hlt:i<gs.size:=(Array.getElem?_eq_some_iff.1 hi).1
  cases hqi:q i with
  |zero=>rw[hqi]at hq;rw[hq.1]at hg;cases hg
  |succ k=>
   rw[hqi]at hq
   rcases hq with⟨hf,_⟩|⟨_,g',es,hm,hstp,hq'⟩
   ·rw[hf]at hg;cases hg
   have hrunT:=runT_crowd_go (P:=P) (sl:=sl') (i:=i) hi (by rw[hi0];exact hstp ((w.at d0).at d))
   have hsz:((gs.map (woken P g g' ((w.at d0).at d))).setIfInBounds i g').size=gs.size:=by simp
   have hsum:sumTo gs.size (upd q i k)+(k+1)=sumTo gs.size q+k:=by
    have:=sumTo_upd q k id hlt
    simpa[hqi]using this
   obtain⟨N,gs',a'',w'',sl'',t',q',B',hr,hs',h0',hF,hL',hP',hI'⟩:=ihM (sumTo gs.size (upd q i k)) (by omega) ((w.at d0).at d) ((gs.map (woken P g g' ((w.at d0).at d))).setIfInBounds i g') sl' (t++MemOp.ofEvents i g.frame.fn g.frame.place es) (upd q i k) B ⟨d,rfl⟩ (by rw[hsz];exact Qhq _) (hsz.trans hn0)
    (by
      have hne:i≠0:=by omega
      rw[Qhs hne,Qhw,h0]
      simp[woken_run hrun])
    ⟨fun j x hj hx=>by
      by_cases hji:i=j
      ·subst hji
       rw[Qhu (by simpa using hlt)]at hx
       obtain rfl:=Option.some.inj hx
       rw[upd_same,Deaf_own]
       exact hq'
      ·rw[Qhs hji,Qhw]at hx
       obtain⟨y,hy,rfl⟩:=Option.map_eq_some_iff.1 hx
       have hqj:=hL.old j y hj hy
       rw[woken_quitsD hqj,upd_ne q k (Ne.symm hji),Deaf_other t hji _ (fun op hop=>by obtain⟨e,_,rfl⟩:=Go.Conc.mem_ofEvents hop;rfl)]
       exact hqj,fun j hj=>by
      rw[Deaf_other t (g':=i) (by simp at hj;omega) _ (fun op hop=>by obtain⟨e,_,rfl⟩:=Go.Conc.mem_ofEvents hop;rfl)]
      exact hL.above j (by simpa using hj)⟩
    (hP.mute (by omega) hm) (hIm _ t i es _ _ hI (by omega) (by omega) hm)
   exact⟨N+1,gs',a'',w'',sl'',t',q',B',by simp only[runNT,hst,hrunT];exact hr,hs'.trans hsz,h0',hF,hL',hP',hI'⟩
theorem Qah {Shun:Loc→Prop}{B Ch:Nat}{t u:Trace}(h:Past Shun B t)(hu:∀op∈u,op.g=0∧op.act.touch? =none∧op.act.low (Ch+1)∧op.act≠.mark .disable∧op.act≠.mark .enable):Past Shun (B+Ch+1) (t++u):=
 (h.mono (show B≤B+Ch+1 by omega)).app0 (fun op hop=>(hu op hop).1) (fun op hop b hb=>by rw[(hu op hop).2.1]at hb;cases hb) (Deaf_still t 0 u fun op hop=>(hu op hop).2.2.2) (fun op hop=>MemAct.low_mono (by omega) (hu op hop).2.2.1)
theorem Qbl {P:Program}{t u:Trace}{gs:Array Goroutine}{q:Nat→Nat}(h:Leavers P t gs q)(hu:∀op∈u,op.g=0∧op.act.touch? =none∧op.act≠.mark .disable∧op.act≠.mark .enable)(a':Goroutine):Leavers P (t++u) (gs.setIfInBounds 0 a') q:=
 ⟨fun j x hj hx=>by
   rw[Qhs (by omega)]at hx
   rw[Deaf_still t j u fun op hop=>(hu op hop).2.2]
   exact h.old j x hj hx,fun j hj=>by rw[Deaf_still t j u fun op hop=>(hu op hop).2.2];exact h.above j (by simpa using hj)⟩
theorem Qam {P:Program}{t:Trace}{gs:Array Goroutine}{q:Nat→Nat}(h:Leavers P t gs q)(c:Nat)(send:Bool)(h0:0<gs.size):partners (gs.setIfInBounds 0 ph) c send=[]:=by
 refine partners_nil fun k x hx=>?_
 by_cases e:0=k
 ·subst e
  rw[Qhu h0]at hx
  cases hx
  rfl
 ·rw[Qhs e]at hx
  rcases(h.old k x (by omega) hx).status with h1|h1<;>simp[offersAt,h1]
section
variable {P:Program} {X:Nat→Bool} {Ch:Nat} {Fin:Goroutine→World→Prop} {Shun:Loc→Prop}
theorem Qd6 (hS:∀l,Shun l→∃a,l=.cell a∧X a.block=true)(I:Nat→Trace→Prop)(hI0:∀n n' t es fn pos,n≤n'→I n t→(∀e∈es,Ev X n' e)→I n' (t++MemOp.ofEvents 0 fn pos es))(hIc:∀n t u,I n t→(∀op∈u,op.g=0∧op.act.touch? =none)→I n (t++u))(n0:Nat)
 (hIm:∀n t g es fn pos,I n t→g≠0→g<n0→(∀e∈es,Event.mute e=true)→I n (t++MemOp.ofEvents g fn pos es)){a:Goroutine}{w:World}(h:Qt P X Ch Fin a w):
 ∀(gs:Array Goroutine) (sl:Option (Nat×Nat)) (t:Trace) (q:Nat→Nat) (B:Nat),gs.size=n0→gs[0]? =some a→Leavers P t gs q→Past Shun B t→I w.heap.size t→KW P Fin Shun I gs w sl t:=by
 induction h with
 |stop hf=>intro gs sl t q B _ h0 hL hP hI;exact⟨0,gs,_,_,sl,t,q,B,rfl,rfl,h0,hf,hL,hP,hI⟩
 | @step a w hrun h1 h2 ih=>
   intro gs sl t q B hn0 h0 hL hP hI
   refine VS hIm hrun (fun d gs sl t q B hn0 h0 hL hP hI=>?_) (sumTo gs.size q) w gs sl t q B ⟨w.drawn,rfl⟩ (Qhq _) hn0 h0 hL hP hI
   obtain⟨a1,w1,es,hgo,hsw,hev⟩:=h1 d
   have hrunT:=runT_crowd_go (P:=P) (sl:=sl) (i:=0) h0 (show stepG P (0 ==0) a (w.at d)=_ from hgo)
   have hsz:((gs.map (woken P a a1 w1)).setIfInBounds 0 a1).size=gs.size:=by simp
   have hlt:0<gs.size:=(Array.getElem?_eq_some_iff.1 h0).1
   have hB:Past Shun (B+w1.heap.size) t:=hP.mono (Nat.le_add_right _ _)
   refine⟨_,_,hrunT,_,_,_,rfl,hsz.trans hn0,ih d a1 w1 es hgo _ _ _ q (B+w1.heap.size) (hsz.trans hn0) (by simp[hlt]) ⟨fun j x hj hx=>?_,fun j hj=>?_⟩ (hB.own fun e he=>QfR hS (hev (B+w1.heap.size) (Nat.le_add_left _ _) e he)) (hI0 w.heap.size w1.heap.size t es _ _ hsw hI fun e he=>hev w1.heap.size (Qhq _) e he)⟩
   ·have hne:0≠j:=by omega
    rw[Qhs hne,Qhw]at hx
    obtain⟨y,hy,rfl⟩:=Option.map_eq_some_iff.1 hx
    have hq:=hL.old j y hj hy
    rw[woken_quitsD hq,Deaf_other t (by omega) _ (fun op hop=>by obtain⟨e,_,rfl⟩:=Go.Conc.mem_ofEvents hop;rfl)]
    exact hq
   ·rw[Deaf_other t (g':=0) (by simp at hj;omega) _ (fun op hop=>by obtain⟨e,_,rfl⟩:=Go.Conc.mem_ofEvents hop;rfl)]
    exact hL.above j (by simpa using hj)
 | @buf a g2 w z cap s r b closed tm hrun h1 hc hb h2 ih=>
   intro gs sl t q B hn0 h0 hL hP hI
   refine VS hIm hrun (fun d gs sl t q B hn0 h0 hL hP hI=>?_) (sumTo gs.size q) w gs sl t q B ⟨w.drawn,rfl⟩ (Qhq _) hn0 h0 hL hP hI
   have hlt:0<gs.size:=(Array.getElem?_eq_some_iff.1 h0).1
   have hrunT:=crowd_recv_buf (P:=P) (sl:=sl) (i:=0) h0 (show stepG P (0 ==0) a (w.at d)=_ from h1 d) hc hb (Qam hL Ch true hlt)
   have hu:∀op∈(MemOp.ofEvents 0 a.frame.fn a.frame.place #[]++ #[{g:=0,fn:=g2.frame.fn,pos:=g2.frame.place,act:=.recv Ch r cap},{g:=0,fn:=g2.frame.fn,pos:=g2.frame.place,act:=.recvDone Ch r}]:Trace),op.g=0∧(op.act=.recv Ch r cap∨op.act=.recvDone Ch r):=by
    intro op hop
    rw[ofEvents_eq]at hop
    simp at hop
    rcases hop with rfl|rfl
    ·exact⟨rfl,.inl rfl⟩
    ·exact⟨rfl,.inr rfl⟩
   have HU:∀op∈(MemOp.ofEvents 0 a.frame.fn a.frame.place #[]++ #[{g:=0,fn:=g2.frame.fn,pos:=g2.frame.place,act:=.recv Ch r cap},{g:=0,fn:=g2.frame.fn,pos:=g2.frame.place,act:=.recvDone Ch r}]:Trace),op.g=0∧op.act.touch? =none:=fun op hop=>by
    obtain⟨h3,h4|h4⟩:=hu op hop<;>rw[h4]<;>exact⟨h3,rfl⟩
   refine⟨_,_,hrunT,_,_,_,rfl,by simpa using hn0,ih d _ _ _ q (B+Ch+1) (by simpa using hn0) (Qhu hlt) (Qbl hL (fun op hop=>?_) _) (Qah hP fun op hop=>?_) (by rw[show((w.at d).setChan Ch cap (b.extract 1 b.size) closed s (r+1) tm).heap.size=w.heap.size by simp[World.setChan];rfl];exact hIc _ t _ hI fun op hop=>HU op hop)⟩
   ·obtain⟨h3,h4|h4⟩:=hu op hop<;>rw[h4]<;>exact⟨h3,rfl,by simp,by simp⟩
   ·obtain⟨h3,h4|h4⟩:=hu op hop<;>rw[h4]<;>exact⟨h3,rfl,Nat.lt_succ_self _,by simp,by simp⟩
 | @shut a g2 w z cap s r tm hrun h1 hc h2 ih=>
   intro gs sl t q B hn0 h0 hL hP hI
   refine VS hIm hrun (fun d gs sl t q B hn0 h0 hL hP hI=>?_) (sumTo gs.size q) w gs sl t q B ⟨w.drawn,rfl⟩ (Qhq _) hn0 h0 hL hP hI
   have hlt:0<gs.size:=(Array.getElem?_eq_some_iff.1 h0).1
   have hrunT:=crowd_recv_closed (P:=P) (sl:=sl) (i:=0) h0 (show stepG P (0 ==0) a (w.at d)=_ from h1 d) hc (Qam hL Ch true hlt)
   have hu:∀op∈(MemOp.ofEvents 0 a.frame.fn a.frame.place #[]++ #[{g:=0,fn:=g2.frame.fn,pos:=g2.frame.place,act:=.recvClosed Ch}]:Trace),op.g=0∧op.act=.recvClosed Ch:=by
    intro op hop
    rw[ofEvents_eq]at hop
    simp at hop
    subst hop
    exact⟨rfl,rfl⟩
   have HV:∀op∈(MemOp.ofEvents 0 a.frame.fn a.frame.place #[]++ #[{g:=0,fn:=g2.frame.fn,pos:=g2.frame.place,act:=.recvClosed Ch}]:Trace),op.g=0∧op.act.touch? =none:=fun op hop=>by
    obtain⟨h3,h4⟩:=hu op hop;rw[h4];exact⟨h3,rfl⟩
   refine⟨_,_,hrunT,_,_,_,rfl,by simpa using hn0,ih d _ _ _ q (B+Ch+1) (by simpa using hn0) (Qhu hlt) (Qbl hL (fun op hop=>?_) _) (Qah hP fun op hop=>?_) (hIc _ t _ hI fun op hop=>HV op hop)⟩
   ·obtain⟨h3,h4⟩:=hu op hop;rw[h4];exact⟨h3,rfl,by simp,by simp⟩
   ·obtain⟨h3,h4⟩:=hu op hop;rw[h4];exact⟨h3,rfl,Nat.lt_succ_self _,by simp,by simp⟩
end
end Co
section
open Go.RowKit
theorem Z5:(Cut.prog.info? 3).map (fun i=>(i.zero,i.size,i.bytes))=some (some (.int .i64 0),1,8):=by kernel_rfl
def Seg (w:World)(a:Option Addr)(m:Nat)(f:Nat→Value):Prop:=
 0<m→∃b off,a=some ⟨b,off,none⟩∧b<w.heap.size∧∀i,i<m→w.cell? ⟨b,off+i,none⟩=some (f i)
theorem Seg.below {w w':World}{B:Nat}{a:Option Addr}{m:Nat}{f:Nat→Value}(h:Seg w a m f)(hb:Below B w w')(hB:w.heap.size≤B):Seg w' a m f:=by
 intro hm
 obtain⟨b,off,h1,h2,h3⟩:=h hm
 exact⟨b,off,h1,Qhr h2 hb.size,fun i hi=>(hb.cell (p:=⟨b,off+i,none⟩) (Qhr h2 hB)).trans (h3 i hi)⟩
def Qk (w:World)(a:Option Addr)(zs:List Int):Prop:=Seg w a zs.length fun i=>.int .i64 (zs.getD i 0)
theorem Qk.get {w:World}{a:Option Addr}{zs:List Int}(h:Qk w a zs){k:Nat}(hk:k<zs.length):∃b off,a=some ⟨b,off,none⟩∧b<w.heap.size∧w.cell? ⟨b,off+k,none⟩=some (.int .i64 zs[k]):=by
 obtain⟨b,off,h1,h2,h3⟩:=h (by omega)
 exact⟨b,off,h1,h2,by rw[h3 k hk];simp[List.getD,Qhx hk]⟩
theorem Qk.below {w w':World}{B:Nat}{a:Option Addr}{zs:List Int}(h:Qk w a zs)(hb:Below B w w')(hB:w.heap.size≤B):Qk w' a zs:=Seg.below h hb hB
structure Ob where
 k:Int
 t:ByteArray
 ra:Option Addr
 rcap:Nat
 r:List Int
def Ob.p (o:Ob):Int×ByteArray×List Int:=(o.k,o.t,o.r)
def Ob.cs (o:Ob):List Value:=[.int .i64 o.k,.string o.t,.slice o.ra o.r.length o.rcap]
def ZQ (w:World)(a:Option Addr)(os:List Ob):Prop:=
 (0<os.length→∃b off,a=some ⟨b,off,none⟩∧b<w.heap.size∧∀i (h:i<os.length),w.cell? ⟨b,off+i*3,none⟩=some (.int .i64 os[i].k)∧w.cell? ⟨b,off+i*3+1,none⟩=some (.string os[i].t)∧w.cell? ⟨b,off+i*3+2,none⟩=some (.slice os[i].ra os[i].r.length os[i].rcap))∧
 ∀i (h:i<os.length),Qk w os[i].ra os[i].r
theorem ZQ.below {w w':World}{B:Nat}{a:Option Addr}{os:List Ob}(h:ZQ w a os)(hb:Below B w w')(hB:w.heap.size≤B):ZQ w' a os:=by
 refine⟨fun hm=>?_,fun i hi=>(h.2 i hi).below hb hB⟩
 obtain⟨b,off,h1,h2,h3⟩:=h.1 hm
 refine⟨b,off,h1,Qhr h2 hb.size,fun i hi=>?_⟩
 obtain⟨c1,c2,c3⟩:=h3 i hi
 have hlt:=Qhr h2 hB
 exact⟨(hb.cell (p:=⟨b,_,none⟩) hlt).trans c1,(hb.cell (p:=⟨b,_,none⟩) hlt).trans c2,(hb.cell (p:=⟨b,_,none⟩) hlt).trans c3⟩
theorem ZQ.get {w:World}{a:Option Addr}{os:List Ob}(h:ZQ w a os){k:Nat}(hk:k<os.length):∃b off,a=some ⟨b,off,none⟩∧b<w.heap.size∧w.cell? ⟨b,off+k*3,none⟩=some (.int .i64 os[k].k)∧w.cell? ⟨b,off+k*3+1,none⟩=some (.string os[k].t)∧w.cell? ⟨b,off+k*3+2,none⟩=some (.slice os[k].ra os[k].r.length os[k].rcap):=by
 obtain⟨b,off,h1,h2,h3⟩:=h.1 (by omega)
 exact⟨b,off,h1,h2,h3 k hk⟩
def QG (w:World)(a:Option Addr)(ws:List (Int×Int)):Prop:=
 0<ws.length→∃b off,a=some ⟨b,off,none⟩∧b<w.heap.size∧∀i (h:i<ws.length),w.cell? ⟨b,off+i*2,none⟩=some (.int .i64 ws[i].1)∧w.cell? ⟨b,off+i*2+1,none⟩=some (.int .i64 ws[i].2)
theorem QG.below {w w':World}{B:Nat}{a:Option Addr}{ws:List (Int×Int)}(h:QG w a ws)(hb:Below B w w')(hB:w.heap.size≤B):QG w' a ws:=by
 intro hm
 obtain⟨b,off,h1,h2,h3⟩:=h hm
 refine⟨b,off,h1,Qhr h2 hb.size,fun i hi=>?_⟩
 obtain⟨c1,c2⟩:=h3 i hi
 have hlt:=Qhr h2 hB
 exact⟨(hb.cell (p:=⟨b,_,none⟩) hlt).trans c1,(hb.cell (p:=⟨b,_,none⟩) hlt).trans c2⟩
theorem QG.get {w:World}{a:Option Addr}{ws:List (Int×Int)}(h:QG w a ws){k:Nat}(hk:k<ws.length):∃b off,a=some ⟨b,off,none⟩∧b<w.heap.size∧w.cell? ⟨b,off+k*2,none⟩=some (.int .i64 ws[k].1)∧w.cell? ⟨b,off+k*2+1,none⟩=some (.int .i64 ws[k].2):=by
 obtain⟨b,off,h1,h2,h3⟩:=h (by omega)
 exact⟨b,off,h1,h2,h3 k hk⟩
structure Hp where
 oa:Option Addr
 ocap:Nat
 os:List Ob
 ra:Option Addr
 rcap:Nat
 rs:List Int
 wa:Option Addr
 wcap:Nat
 ws:List (Int×Int)
 da:Option Addr
 dcap:Nat
 ds:List (Int×Int)
def Hp.v (h:Hp):Value:=.agg #[.slice h.oa h.os.length h.ocap,.slice h.ra h.rs.length h.rcap,.slice h.wa h.ws.length h.wcap,.slice h.da h.ds.length h.dcap]
structure Qg (w:World) (h:Hp):Prop where
 so:ZQ w h.oa h.os
 sr:Qk w h.ra h.rs
 sw:QG w h.wa h.ws
 sd:QG w h.da h.ds
theorem Qg.below {w w':World}{B:Nat}{h:Hp}(hh:Qg w h)(hb:Below B w w')(hB:w.heap.size≤B):Qg w' h:=
 ⟨hh.so.below hb hB,hh.sr.below hb hB,hh.sw.below hb hB,hh.sd.below hb hB⟩
structure Zk (h:Hp):Prop where
 o:h.os.length≤1048576
 oo:∀i (hi:i<h.os.length),h.os[i].r.length≤1048576
 r:h.rs.length≤1048576
 w:h.ws.length≤1048576
 d:h.ds.length≤1048576
def Blk (w:World)(B:Nat)(cs:List Value)(t:TypeId):Prop:=w.heap[B]? =some (.cells cs.toArray t (0,0))
theorem Blk.lt {w:World}{B:Nat}{cs:List Value}{t:TypeId}(h:Blk w B cs t):B<w.heap.size:=lt_of_block h
theorem Blk.cell {w:World}{B:Nat}{cs:List Value}{t:TypeId}(h:Blk w B cs t)(j:Nat):w.cell? ⟨B,j,none⟩=cs[j]? :=by
 unfold Blk at h
 simp[World.cell?,h]
theorem Blk.free {w:World}{B:Nat}{cs:List Value}{t:TypeId}(h:Blk w B cs t)(j:Nat):w.frozen? ⟨B,j,none⟩=false:=by
 unfold Blk at h
 simp[World.frozen?,h]
theorem Blk.below {w w':World}{B C:Nat}{cs:List Value}{t:TypeId}(h:Blk w B cs t)(hb:Below C w w')(hC:B<C):Blk w' B cs t:=by
 unfold Blk at *
 rw[hb.block B hC];exact h
theorem Blk.store {w:World}{B:Nat}{cs:List Value}{t:TypeId}(h:Blk w B cs t)(j:Nat)(u:Value):Blk (w.setCell ⟨B,j,none⟩ u) B (cs.set j u) t:=by
 have hlt:=h.lt
 have h':w.heap[B]=.cells cs.toArray t (0,0):=by simpa[Blk,Qht hlt]using h
 show(w.heap.modify B _)[B]? =_
 rw[Qht (by simpa using hlt),Array.getElem_modify_self,h']
 simp
theorem Blk.other {w:World}{B:Nat}{cs:List Value}{t:TypeId}(h:Blk w B cs t)(p:Addr)(u:Value)(hp:B≠p.block):Blk (w.setCell p u) B cs t:=by
 unfold Blk at *
 rw[Below.heap_setCell _ _ _ _ hp];exact h
theorem Blk.alloc {w:World}{B:Nat}{cs:List Value}{t:TypeId}(h:Blk w B cs t)(o:Obj):Blk (w.alloc o) B cs t:=by
 unfold Blk at *
 rw[Below.heap_alloc _ _ _ (lt_of_block h)];exact h
theorem Blk.new (w:World)(cs:List Value)(t:TypeId):Blk (w.alloc (.cells cs.toArray t)) w.heap.size cs t:=heap_alloc_new w _
theorem Qho {W w1:World}{B:Nat}(hb:Below B W w1):(∀b o,b<B→w1.cell? ⟨b,o,none⟩=W.cell? ⟨b,o,none⟩)∧(∀b o,b<B→w1.frozen? ⟨b,o,none⟩=W.frozen? ⟨b,o,none⟩):=
 ⟨fun b o h=>hb.cell (p:=⟨b,o,none⟩) h,fun b o h=>hb.frozen (p:=⟨b,o,none⟩) h⟩
theorem ZW {B:Nat}{a w:World}(h:Below B a w)(n:Nat):Below B a (w.drewN n):=⟨h.os,h.tape,h.output,h.size,h.block⟩
theorem QaV {w:World}{base e size g n:Nat}{xs:List Value}(h:w.ownsRow base e size (.slice (some ⟨g,0,none⟩) n n) n xs):Blk w g xs e:=by
 rcases h.2 with⟨h',_⟩|⟨g',cap',cur,h',_,hg,_,_,hs,htake⟩
 ·simp at h'
 ·simp only[Value.slice.injEq,Option.some.injEq,Addr.mk.injEq,and_true,true_and]at h'
  obtain⟨rfl,rfl⟩:=h'
  unfold Blk
  rw[hg,←htake,←hs,←Array.length_toList,List.take_length]
theorem UZ {w w':World}(hg:w.grownBy w' none):Below w.heap.size w w':=
 (Below.refl _ w).grown hg (Qhq _) (fun k h=>by cases h)
theorem Blk.seg {w:World}{B:Nat}{cs:List Value}{t:TypeId}(h:Blk w B cs t):Seg w (some ⟨B,0,none⟩) cs.length fun i=>cs.getD i (.bool false):=by
 intro _
 refine⟨B,0,rfl,h.lt,fun i hi=>?_⟩
 rw[Qhp,h.cell i]
 simp[List.getD,Qhx hi]
theorem Blk.segI {w:World}{B:Nat}{zs:List Int}{t:TypeId}(h:Blk w B (zs.map (Value.int .i64)) t):Qk w (some ⟨B,0,none⟩) zs:=by
 intro hm
 refine⟨B,0,rfl,h.lt,fun i hi=>?_⟩
 rw[Qhp,h.cell i]
 simp[List.getD,Qhx hi]
theorem JT {α:Type}(f:α→List Value)(s:Nat)(hf:∀x,(f x).length=s)(L:List α):(L.flatMap f).length=L.length*s:=by
 induction L with
 |nil=>simp
 |cons x L ih=>rw[List.flatMap_cons,List.length_append,hf,ih,List.length_cons,Nat.succ_mul];omega
theorem Jy {α:Type}(f:α→List Value)(s:Nat)(hf:∀x,(f x).length=s)(L:List α)(i j:Nat)(hi:i<L.length)(hj:j<s):(L.flatMap f)[i*s+j]? =(f L[i])[j]? :=by
 induction L generalizing i with
 |nil=>simp at hi
 |cons x L ih=>
  rw[List.flatMap_cons]
  cases i with
  |zero=>rw[List.getElem?_append_left (by rw[hf];omega)];simp
  |succ i=>
   rw[List.getElem?_append_right (by rw[hf,Nat.succ_mul];omega),hf,show(i+1)*s+j-s=i*s+j by rw[Nat.succ_mul];omega]
   exact ih i (by simpa using hi)
def wc (p:Int×Int):List Value:=[.int .i64 p.1,.int .i64 p.2]
def Ob.zero:Ob:=⟨0,⟨#[]⟩,none,0,[]⟩
theorem Blk.segW {w:World}{B:Nat}{ws:List (Int×Int)}{t:TypeId}(h:Blk w B (ws.flatMap wc) t):QG w (some ⟨B,0,none⟩) ws:=by
 intro hm
 refine⟨B,0,rfl,h.lt,fun i hi=>?_⟩
 have g0:=Jy wc 2 (fun _=>rfl) ws i 0 hi (by omega)
 have g1:=Jy wc 2 (fun _=>rfl) ws i 1 hi (by omega)
 refine⟨?_,?_⟩
 ·rw[Qhp,h.cell];exact g0
 ·rw[Qhp,h.cell];exact g1
theorem Blk.segO {w:World}{B:Nat}{os:List Ob}{t:TypeId}(h:Blk w B (os.flatMap Ob.cs) t)(hr:∀i (hi:i<os.length),Qk w os[i].ra os[i].r):ZQ w (some ⟨B,0,none⟩) os:=by
 refine⟨fun hm=>⟨B,0,rfl,h.lt,fun i hi=>?_⟩,hr⟩
 have g0:=Jy Ob.cs 3 (fun _=>rfl) os i 0 hi (by omega)
 have g1:=Jy Ob.cs 3 (fun _=>rfl) os i 1 hi (by omega)
 have g2:=Jy Ob.cs 3 (fun _=>rfl) os i 2 hi (by omega)
 refine⟨?_,?_,?_⟩
 ·rw[Qhp,h.cell];exact g0
 ·rw[Qhp,h.cell];exact g1
 ·rw[Qhp,h.cell];exact g2
end
end Go.Proofs.YtcpnkpogebjieaaGreat
