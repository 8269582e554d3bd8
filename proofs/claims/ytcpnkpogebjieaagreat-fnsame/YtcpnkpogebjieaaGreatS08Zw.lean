/- Walks in company through the library's sync.WaitGroup, where others may allot memory: -/
import Derived.Conc.WgGenN3
import Derived.Test.YtcpnkpogebjieaaGreatS07Za
set_option maxRecDepth 100000
set_option maxHeartbeats 16000000
namespace Go.Proofs.YtcpnkpogebjieaaGreat
namespace Co
open Go.Conc Go.ConcR Go.ConcN Go.RowKit Go.Conc.Lib Go.ConcR.Gen
set_option linter.unusedSimpArgs false
def Va (L:WgLink)(Wg:Nat)(c:Frame)(cs:List Frame)(g:Goroutine)(w:World):Prop:=
 ∃T:Array Value,g=G ((base L.wait).at ⟨T,[]⟩ [.code (Go.ConcR.Gen.L7 L),.inLoop (Go.ConcR.Gen.L7 L),.inBlock 0]) (c::cs)∧T.size=84∧T[0]? =some (.pointer (some ⟨Wg,0,none⟩))∧WgLive L.tWg Wg w
section
variable {P:Program} {L:WgLink} {Wg:Nat}
theorem QhE (H:WgLib P L){c:Frame}{cs:List Frame}(w:World)(hF:WgLive L.tWg Wg w):
 Sil P L.tWg Wg (ZN P .disable (Sil P L.tWg Wg (Va L Wg c cs))) (G (Frame.enter P L.wait #[.pointer (some ⟨Wg,0,none⟩)] .normal) (c::cs)) w:=by
 have e:Frame.enter P L.wait #[.pointer (some ⟨Wg,0,none⟩)] .normal=(base L.wait).at ⟨#[.pointer (some ⟨Wg,0,none⟩)]++Array.replicate 83 undef,[]⟩ [.code ((waitFn L).body.getD .skip)]:=by
  simp[Frame.enter,H.f_wait,waitFn,base,Frame.at]
 rw[e];simp only[Array.replicate,List.replicate,List.append_toArray,List.cons_append,List.nil_append]
 lib_facts
 simp only[body_wait,waitFn,Option.getD_some];refine⟨5,?_⟩;u_c stepG_seq rl hF
 u_cond true rl hF
 u_reg rl hF;refine Goes.stop (fun w1 h1=>?_);replace hF:=rl hF h1;clear h1;refine⟨rfl,_,stepG_mark0 .disable (by simp) rfl rfl (by k_ne) rfl H.f_disable (x_disable_n L) (x_disable_b L) (x_disable_x L) (x_disable_f L),5,?_⟩;walk_nrm;u_c stepG_region_end rl hF;u_c stepG_block rl hF;u_c stepG_loop rl hF;exact Goes.stop (fun w₂ h₂=>⟨_,rfl,by simp,by simp,rl hF h₂⟩)
theorem QhD (H:WgLib P L){c:Frame}{cs:List Frame}(g:Goroutine)(w:World)(h:Va L Wg c cs g w):
 Sil P L.tWg Wg (J4 P L.tWg Wg (Va L Wg c cs) (Kf L.tWg Wg c cs)) g w:=by
 lib_facts
 obtain⟨T,rfl,hT84,t0,hF⟩:=h;obtain⟨v0,v1,v2,v3,v4,v5,v6,v7,v8,v9,v10,v11,v12,v13,v14,v15,v16,v17,v18,v19,v20,v21,v22,v23,v24,v25,v26,v27,v28,v29,v30,v31,v32,v33,v34,v35,v36,v37,v38,v39,v40,v41,v42,v43,v44,v45,v46,v47,v48,v49,v50,v51,v52,v53,v54,v55,v56,v57,v58,v59,v60,v61,v62,v63,v64,v65,v66,v67,v68,v69,v70,v71,v72,v73,v74,v75,v76,v77,v78,v79,v80,v81,v82,v83,rfl⟩:=Go.ConcR.Gen.array84 T hT84;simp only[List.getElem?_toArray,List.getElem?_cons_zero,Option.some.injEq]at t0;subst t0;refine⟨40,?_⟩;simp only[Go.ConcR.Gen.L7,body_wait,waitFn,Option.getD_some]
 repeat first
  |u_c stepG_seq rl hF
  |u_c stepG_region_end rl hF
  |u_c stepG_skip rl hF
  |u_c stepG_block rl hF
  |u_c stepG_inBlock rl hF
  |u_c stepG_inLoop rl hF
  |u_c stepG_loop rl hF
  |u_exit rl hF
  |u_cond true rl hF
  |u_cond false rl hF
  |u_cnd true rl hF
  |u_cnd false rl hF
  |u_reg rl hF
  |u_skip rl hF
  |u_call H.f_uLoad (nm_uLoad L) uLoadFn rl hF
  |u_op rl hF
 refine Goes.stop (fun w1 h1=>?_);replace hF:=rl hF h1;clear h1;refine⟨rfl,fun v hv hw=>?_⟩;rcases Nat.eq_zero_or_pos v with rfl|hvp
 ·replace hw:WgAt L.tWg Wg w1 0 0:=by simpa using hw
  refine⟨_,stepG_load_atomic (v:=0) rfl rfl (by k_ne) rfl H.f_loadU64 (x_loadU64_n L) (x_loadU64_b L) (x_loadU64_x L) .u64 (x_loadU64_f L) rfl hw.cellSt,fun _=>⟨60,?_⟩,fun h=>absurd rfl h⟩;clear hw;walk_nrm;u_op rl hF;u_c stepG_region_end rl hF;u_c stepG_ret' rl hF
  u_leave1 H.f_uLoad rl hF
  repeat first
   |u_c stepG_seq rl hF
   |u_c stepG_region_end rl hF
   |u_c stepG_skip rl hF
   |u_c stepG_block rl hF
   |u_c stepG_inBlock rl hF
   |u_c stepG_inLoop rl hF
   |u_c stepG_loop rl hF
   |u_exit rl hF
   |u_cond true rl hF
   |u_cond false rl hF
   |u_cnd true rl hF
   |u_cnd false rl hF
   |u_reg rl hF
   |u_skip rl hF
   |u_op rl hF
  refine Goes.stop (fun w5 h5=>?_);replace hF:=rl hF h5;clear h5;refine⟨rfl,_,stepG_mark0 .enable (by simp) rfl rfl (by k_ne) rfl H.f_enable (x_enable_n L) (x_enable_b L) (x_enable_x L) (x_enable_f L),20,?_⟩;walk_nrm;u_c stepG_region_end rl hF;u_reg rl hF;u_op rl hF
  u_conv H.underlying_tWgP H.room_tWg (Go.ConcN.Gen.WgLive.cell0 hF).choose_spec rl hF
  refine Goes.stop (fun w6 h6=>?_);replace hF:=rl hF h6;clear h6;refine⟨rfl,_,stepG_markAt .acquire (by simp) rfl rfl (by k_ne) rfl H.f_acquire (x_acquire_n L) (x_acquire_b L) (x_acquire_x L) (x_acquire_f L) (by simp[Act.eval,stA]),60,?_⟩;walk_nrm
  repeat first
   |u_c stepG_seq rl hF
   |u_c stepG_region_end rl hF
   |u_c stepG_skip rl hF
   |u_c stepG_block rl hF
   |u_c stepG_inBlock rl hF
   |u_c stepG_inLoop rl hF
   |u_c stepG_loop rl hF
   |u_exit rl hF
   |u_cond true rl hF
   |u_cond false rl hF
   |u_cnd true rl hF
   |u_cnd false rl hF
   |u_reg rl hF
   |u_skip rl hF
   |u_op rl hF
  u_c stepG_ret' rl hF;u_in rl hF;rw[stepG_leave rfl rfl H.f_wait (results_none rfl _ P _) (events_results_none rfl _ _)];simp only[goes_go];refine⟨by u_nil,?_⟩;exact Goes.stop (fun w9 h9=>⟨rfl,rl hF h9⟩)
 ·obtain⟨Z,hZ⟩:∃Z:Int,(v:Int)*KK=Z:=⟨_,rfl⟩;have a1:Z/4294967296=(v:Int):=by rw[←hZ];simp only[KK];omega
  have b1:bits .and .u64 Z 2147483648=0:=by rw[←hZ];have:=st_flag v 0 (by omega) (by omega);simpa[KK]using this
  have b2:bits .and .u64 Z 2147483647=0:=by rw[←hZ];have:=st_waiters v 0 (by omega) (by omega);simpa[KK]using this
  have c1:IntKind.i32.wrap (v:Int)=(v:Int):=by rw[IntKind.wrap_i32];omega
  have d1:IntKind.u64.wrap (Z+1)=Z+1:=by rw[IntKind.wrap_u64,←hZ];simp only[KK];omega
  have q3:decide ((v:Int)<0)=false:=decide_eq_false (by omega);have q4:decide (0<(v:Int))=true:=decide_eq_true (by omega);have q5:((v:Int)==0)=false:=by simp;omega
  have q6:decide ((v:Int)=0)=false:=decide_eq_false (by omega);rw[hZ]at hw;refine⟨_,stepG_load_atomic (v:=Z) rfl rfl (by k_ne) rfl H.f_loadU64 (x_loadU64_n L) (x_loadU64_b L) (x_loadU64_x L) .u64 (x_loadU64_f L) rfl hw.cellSt,fun h0=>absurd h0 (by omega),fun _=>⟨100,?_⟩⟩;clear hw;walk_nrm;u_op rl hF;u_c stepG_region_end rl hF;u_c stepG_ret' rl hF
  u_leave1 H.f_uLoad rl hF
  repeat first
   |u_c stepG_seq rl hF
   |u_c stepG_region_end rl hF
   |u_c stepG_skip rl hF
   |u_c stepG_block rl hF
   |u_c stepG_inBlock rl hF
   |u_c stepG_inLoop rl hF
   |u_c stepG_loop rl hF
   |u_exit rl hF
   |u_cond true rl hF
   |u_cond false rl hF
   |u_cnd true rl hF
   |u_cnd false rl hF
   |u_reg rl hF
   |u_skip rl hF
   |u_call H.f_uCas (nm_uCas L) uCasFn rl hF
   |u_op rl hF
  refine Goes.stop (fun w2 h2=>?_);replace hF:=rl hF h2;clear h2;refine⟨rfl,fun v' hv' hw=>⟨fun e=>?_,fun e=>?_⟩⟩
  ·subst e;rw[hZ]at hw⊢;refine⟨_,(stepG_cas_hit (v:=Z) (n:=Z+1) rfl rfl (by k_ne) rfl H.f_casU64 (x_casU64_n L) (x_casU64_b L) (x_casU64_x L) .u64 (x_casU64_f L) rfl rfl rfl hw.cellSt (hw.thaw 0)).trans (by rfl),100,?_⟩;replace hF:WgLive L.tWg Wg (w2.setCell (stA Wg) (.int .u64 (Z+1))):=⟨_,_,hw.setSt _⟩;clear hw;walk_nrm;u_op rl hF;u_c stepG_region_end rl hF;u_c stepG_ret' rl hF
   u_leave1 H.f_uCas rl hF
   repeat first
    |u_c stepG_seq rl hF
    |u_c stepG_region_end rl hF
    |u_c stepG_skip rl hF
    |u_c stepG_block rl hF
    |u_c stepG_inBlock rl hF
    |u_c stepG_inLoop rl hF
    |u_c stepG_loop rl hF
    |u_exit rl hF
    |u_cond true rl hF
    |u_cond false rl hF
    |u_cnd true rl hF
    |u_cnd false rl hF
    |u_reg rl hF
    |u_skip rl hF
    |u_op rl hF
   u_conv H.underlying_tPU32 H.room_tU32 (Go.ConcN.Gen.WgLive.cell1 hF).choose_spec rl hF
   refine Goes.stop (fun w3 h3=>?_);replace hF:=rl hF h3;clear h3;refine⟨rfl,_,stepG_markAt .write (by simp) rfl rfl (by k_ne) rfl H.f_raceWrite (x_raceWrite_n L) (x_raceWrite_b L) (x_raceWrite_x L) (x_raceWrite_f L) (ad:=⟨Wg,1,none⟩) (by simp[Act.eval]),80,?_⟩;walk_nrm
   repeat first
    |u_c stepG_seq rl hF
    |u_c stepG_region_end rl hF
    |u_c stepG_skip rl hF
    |u_c stepG_block rl hF
    |u_c stepG_inBlock rl hF
    |u_c stepG_inLoop rl hF
    |u_c stepG_loop rl hF
    |u_exit rl hF
    |u_cond true rl hF
    |u_cond false rl hF
    |u_cnd true rl hF
    |u_cnd false rl hF
    |u_reg rl hF
    |u_skip rl hF
    |u_op rl hF
   refine Goes.stop (fun w4 h4=>?_);replace hF:=rl hF h4;clear h4;refine⟨rfl,rfl,fun⟨st,hw⟩=>stepG_semacquire_wait rfl rfl rfl H.f_semacquire (x_semacquire_n L) (x_semacquire_b L) (x_semacquire_x L) (x_semacquire_f L) (by simp[Act.eval,smA]) hw.cellSm,fun hf=>?_⟩;refine⟨_,(stepG_semacquire (n:=1) rfl rfl (by k_ne) rfl H.f_semacquire (x_semacquire_n L) (x_semacquire_b L) (x_semacquire_x L) (x_semacquire_f L) (by simp[Act.eval,smA]) hf.cellSm (by k_ne) (hf.thaw 1)).trans (by rfl),60,?_⟩;replace hF:WgLive L.tWg Wg (w4.setCell (smA Wg) (.int .u32 0)):=⟨_,_,hf.setSm 0⟩;clear hf;walk_nrm
   repeat first
    |u_c stepG_seq rl hF
    |u_c stepG_region_end rl hF
    |u_c stepG_skip rl hF
    |u_c stepG_block rl hF
    |u_c stepG_inBlock rl hF
    |u_c stepG_inLoop rl hF
    |u_c stepG_loop rl hF
    |u_exit rl hF
    |u_cond true rl hF
    |u_cond false rl hF
    |u_cnd true rl hF
    |u_cnd false rl hF
    |u_reg rl hF
    |u_skip rl hF
    |u_call H.f_uLoad (nm_uLoad L) uLoadFn rl hF
    |u_op rl hF
   refine Goes.stop (fun w6 h6=>?_);replace hF:=rl hF h6;clear h6;refine⟨rfl,fun hw=>⟨_,stepG_load_atomic (v:=0) rfl rfl (by k_ne) rfl H.f_loadU64 (x_loadU64_n L) (x_loadU64_b L) (x_loadU64_x L) .u64 (x_loadU64_f L) rfl hw.cellSt,60,?_⟩⟩;clear hw;walk_nrm;u_op rl hF;u_c stepG_region_end rl hF;u_c stepG_ret' rl hF
   u_leave1 H.f_uLoad rl hF
   repeat first
    |u_c stepG_seq rl hF
    |u_c stepG_region_end rl hF
    |u_c stepG_skip rl hF
    |u_c stepG_block rl hF
    |u_c stepG_inBlock rl hF
    |u_c stepG_inLoop rl hF
    |u_c stepG_loop rl hF
    |u_exit rl hF
    |u_cond true rl hF
    |u_cond false rl hF
    |u_cnd true rl hF
    |u_cnd false rl hF
    |u_reg rl hF
    |u_skip rl hF
    |u_op rl hF
   refine Goes.stop (fun w7 h7=>?_);replace hF:=rl hF h7;clear h7;refine⟨rfl,_,stepG_mark0 .enable (by simp) rfl rfl (by k_ne) rfl H.f_enable (x_enable_n L) (x_enable_b L) (x_enable_x L) (x_enable_f L),20,?_⟩;walk_nrm;u_c stepG_region_end rl hF;u_reg rl hF;u_op rl hF
   u_conv H.underlying_tWgP H.room_tWg (Go.ConcN.Gen.WgLive.cell0 hF).choose_spec rl hF
   refine Goes.stop (fun w8 h8=>?_);replace hF:=rl hF h8;clear h8;refine⟨rfl,_,stepG_markAt .acquire (by simp) rfl rfl (by k_ne) rfl H.f_acquire (x_acquire_n L) (x_acquire_b L) (x_acquire_x L) (x_acquire_f L) (by simp[Act.eval,stA]),60,?_⟩;walk_nrm
   repeat first
    |u_c stepG_seq rl hF
    |u_c stepG_region_end rl hF
    |u_c stepG_skip rl hF
    |u_c stepG_block rl hF
    |u_c stepG_inBlock rl hF
    |u_c stepG_inLoop rl hF
    |u_c stepG_loop rl hF
    |u_exit rl hF
    |u_cond true rl hF
    |u_cond false rl hF
    |u_cnd true rl hF
    |u_cnd false rl hF
    |u_reg rl hF
    |u_skip rl hF
    |u_op rl hF
   u_c stepG_ret' rl hF;u_in rl hF;rw[stepG_leave rfl rfl H.f_wait (results_none rfl _ P _) (events_results_none rfl _ _)];simp only[goes_go];refine⟨by u_nil,?_⟩;exact Goes.stop (fun w9 h9=>⟨rfl,rl hF h9⟩)
  ·refine⟨_,stepG_cas_miss (v:=(v':Int)*KK) (old:=Z) (n:=Z+1) rfl rfl (by k_ne) rfl H.f_casU64 (x_casU64_n L) (x_casU64_b L) (x_casU64_x L) .u64 (x_casU64_f L) rfl rfl rfl hw.cellSt (hw.thaw 0) (by rw[←hZ];simp only[KK];omega),30,?_⟩;clear hw;walk_nrm;u_op rl hF;u_c stepG_region_end rl hF;u_c stepG_ret' rl hF
   u_leave1 H.f_uCas rl hF
   u_c stepG_region_end rl hF
   u_cond false rl hF
   u_c stepG_skip rl hF;u_c stepG_inBlock rl hF;u_c stepG_inLoop rl hF;exact Goes.stop (fun w5 h5=>⟨_,rfl,by simp,by simp,rl hF h5⟩)
end
end Co
end Go.Proofs.YtcpnkpogebjieaaGreat
