/- Walks in company through the library's sync.WaitGroup, where others may allot memory: -/
import Derived.Conc.WgGenN2
import Derived.Test.YtcpnkpogebjieaaGreatS06Zs
set_option maxRecDepth 100000
set_option maxHeartbeats 4000000
namespace Go.Proofs.YtcpnkpogebjieaaGreat
namespace Co
open Go.Conc Go.ConcR Go.ConcN Go.RowKit Go.Conc.Lib Go.ConcR.Gen
set_option linter.unusedSimpArgs false
section
variable {P:Program} {L:WgLink} {Wg:Nat}
theorem Qb5 (H:WgLib P L){c:Frame}{cs:List Frame}(w:World)(hF:WgLive L.tWg Wg w):
 Sil P L.tWg Wg (ZN P .disable (Sil P L.tWg Wg (QbX P L.tWg Wg (Sil P L.tWg Wg (Kf L.tWg Wg c cs))))) (G (Frame.enter P L.add #[.pointer (some ⟨Wg,0,none⟩),.int .i64 1] .normal) (c::cs)) w:=by
 have e:Frame.enter P L.add #[.pointer (some ⟨Wg,0,none⟩),.int .i64 1] .normal=(base L.add).at ⟨#[.pointer (some ⟨Wg,0,none⟩),.int .i64 1]++Array.replicate 115 undef,[]⟩ [.code ((addFn L).body.getD .skip)]:=by
  simp[Frame.enter,H.f_add,addFn,base,Frame.at]
 rw[e];simp only[Array.replicate,List.replicate,List.append_toArray,List.cons_append,List.nil_append]
 lib_facts
 simp only[addFn,Option.getD_some];refine⟨20,?_⟩;u_c stepG_seq rl hF
 u_cond true rl hF
 u_c stepG_seq rl hF;u_c stepG_seq rl hF;u_reg rl hF;u_op rl hF;u_op rl hF;u_c stepG_region_end rl hF
 u_cond false rl hF
 u_c stepG_skip rl hF;u_c stepG_seq rl hF;u_reg rl hF;refine Goes.stop (fun w₁ h₁=>?_);replace hF:=rl hF h₁;clear h₁;refine⟨rfl,_,stepG_mark0 .disable (by simp) rfl rfl (by k_ne) rfl H.f_disable (x_disable_n L) (x_disable_b L) (x_disable_x L) (x_disable_f L),60,?_⟩;walk_nrm;u_c stepG_region_end rl hF;u_reg rl hF
 u_defer rl hF
 u_c stepG_region_end rl hF;u_c stepG_seq rl hF;u_reg rl hF;u_op rl hF;u_c stepG_region_end rl hF;u_c stepG_seq rl hF;u_c stepG_seq rl hF;u_reg rl hF
 u_bub rl hF
 repeat first
  |u_c stepG_seq rl hF
  |u_c stepG_region_end rl hF
  |u_c stepG_skip rl hF
  |u_cond true rl hF
  |u_cond false rl hF
  |u_cnd true rl hF
  |u_cnd false rl hF
  |u_reg rl hF
  |u_skip rl hF
  |u_call H.f_uAdd (nm_uAdd L) uAddFn rl hF
  |u_op rl hF
 refine Goes.stop (fun w₂ h₂=>?_);replace hF:=rl hF h₂;clear h₂;refine⟨rfl,fun v hv hw=>?_⟩;rcases Nat.eq_zero_or_pos v with rfl|hvp
 ·replace hw:WgAt L.tWg Wg w₂ 0 0:=by simpa using hw
  have e0:IntKind.u64.wrap (0+4294967296)=KK:=by decide
  have e1:((0+1:Nat):Int)*KK=KK:=by simp
  rw[e1];refine⟨_,(stepG_add_atomic rfl rfl (by k_ne) rfl H.f_addU64 (x_addU64_n L) (x_addU64_b L) (x_addU64_x L) .u64 (x_addU64_f L) rfl rfl hw.cellSt (hw.thaw 0)).trans (by rw[e0];rfl),fun _=>⟨120,?_⟩,fun h=>absurd rfl h⟩;replace hF:WgLive L.tWg Wg (w₂.setCell (stA Wg) (.int .u64 KK)):=⟨_,_,hw.setSt _⟩;clear hw;simp only[KK]at hF⊢;walk_nrm;u_op rl hF;u_c stepG_region_end rl hF;u_c stepG_ret' rl hF
  u_leave1 H.f_uAdd rl hF
  repeat first
   |u_c stepG_seq rl hF
   |u_c stepG_region_end rl hF
   |u_c stepG_skip rl hF
   |u_cond true rl hF
   |u_cond false rl hF
   |u_cnd true rl hF
   |u_cnd false rl hF
   |u_reg rl hF
   |u_skip rl hF
   |u_op rl hF
  u_conv H.underlying_tPU32 H.room_tU32 (Go.ConcN.Gen.WgLive.cell1 hF).choose_spec rl hF
  refine Goes.stop (fun w₃ h₃=>?_);replace hF:=rl hF h₃;clear h₃;refine⟨rfl,_,stepG_markAt .read (by simp) rfl rfl (by k_ne) rfl H.f_raceRead (x_raceRead_n L) (x_raceRead_b L) (x_raceRead_x L) (x_raceRead_f L) (ad:=⟨Wg,1,none⟩) (by simp[Act.eval]),60,?_⟩;walk_nrm
  repeat first
   |u_c stepG_seq rl hF
   |u_c stepG_region_end rl hF
   |u_c stepG_skip rl hF
   |u_cond true rl hF
   |u_cond false rl hF
   |u_cnd true rl hF
   |u_cnd false rl hF
   |u_reg rl hF
   |u_skip rl hF
   |u_op rl hF
  u_c stepG_ret' rl hF;refine Goes.stop (fun w₃ h₃=>?_);replace hF:=rl hF h₃;clear h₃;refine⟨rfl,_,stepG_unwind_entry (v:=.tuple #[]) (evs:=#[mk .enable]) rfl H.f_enable (x_enable_n L) (x_enable_b L) (x_enable_x L) (x_enable_f L) (by simp[Extern.Race.none_]) (by simp[mk]) (by simp[mk]),1,?_⟩;u_in rl hF;rw[stepG_leave rfl rfl H.f_add (results_none rfl _ P _) (events_results_none rfl _ _)];simp only[goes_go];refine⟨by u_nil,?_⟩;exact Goes.stop (fun w₄ h₄=>⟨rfl,rl hF h₄⟩)
 ·obtain⟨V,hV⟩:∃V:Int,V=((v+1:Nat):Int):=⟨_,rfl⟩;obtain⟨Z,hZ⟩:∃Z:Int,Z=V*KK:=⟨_,rfl⟩;have eZ:IntKind.u64.wrap ((v:Int)*KK+4294967296)=Z:=by rw[IntKind.wrap_u64,hZ,hV];simp only[KK];omega
  rw[←hV,←hZ];have a1:Z/4294967296=V:=by rw[hZ];simp only[KK];omega
  have b1:bits .and .u64 Z 2147483648=0:=by rw[hZ,hV];have:=st_flag (v+1) 0 (by omega) (by omega);simpa[KK]using this
  have b2:bits .and .u64 Z 2147483647=0:=by rw[hZ,hV];have:=st_waiters (v+1) 0 (by omega) (by omega);simpa[KK]using this
  have c1:IntKind.i32.wrap V=V:=by rw[IntKind.wrap_i32];omega
  have q1:(V ==1)=false:=by simp;omega
  have q2:decide (V=1)=false:=decide_eq_false (by omega);have q3:decide (V<0)=false:=decide_eq_false (by omega);have q4:decide (0<V)=true:=decide_eq_true (by omega);refine⟨_,(stepG_add_atomic rfl rfl (by k_ne) rfl H.f_addU64 (x_addU64_n L) (x_addU64_b L) (x_addU64_x L) .u64 (x_addU64_f L) rfl rfl hw.cellSt (hw.thaw 0)).trans (by rw[eZ];rfl),fun h=>absurd h (by omega),fun _=>⟨120,?_⟩⟩;replace hF:WgLive L.tWg Wg (w₂.setCell (stA Wg) (.int .u64 Z)):=⟨_,_,hw.setSt _⟩;clear hw hZ hV eZ;walk_nrm;u_op rl hF;u_c stepG_region_end rl hF;u_c stepG_ret' rl hF
  u_leave1 H.f_uAdd rl hF
  repeat first
   |u_c stepG_seq rl hF
   |u_c stepG_region_end rl hF
   |u_c stepG_skip rl hF
   |u_cond true rl hF
   |u_cond false rl hF
   |u_cnd true rl hF
   |u_cnd false rl hF
   |u_reg rl hF
   |u_skip rl hF
   |u_op rl hF
  u_c stepG_ret' rl hF;refine Goes.stop (fun w₃ h₃=>?_);replace hF:=rl hF h₃;clear h₃;refine⟨rfl,_,stepG_unwind_entry (v:=.tuple #[]) (evs:=#[mk .enable]) rfl H.f_enable (x_enable_n L) (x_enable_b L) (x_enable_x L) (x_enable_f L) (by simp[Extern.Race.none_]) (by simp[mk]) (by simp[mk]),1,?_⟩;u_in rl hF;rw[stepG_leave rfl rfl H.f_add (results_none rfl _ P _) (events_results_none rfl _ _)];simp only[goes_go];refine⟨by u_nil,?_⟩;exact Goes.stop (fun w₄ h₄=>⟨rfl,rl hF h₄⟩)
end
end Co
end Go.Proofs.YtcpnkpogebjieaaGreat
