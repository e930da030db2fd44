/- What a rule gives, by the reference: the beginning, and the words. -/
import Derived.Test.YtpeoleimmabceaaGreatF8
set_option linter.unusedVariables false
set_option linter.unusedSimpArgs false
set_option linter.unusedSectionVars false

namespace Go.Proofs.YtpeoleimmabceaaGreat.Q
open Go Go.AM
set_option maxRecDepth 10000

theorem sum_takeB (w:List Int) (B:Int):∀ {k:Nat},k ≤ w.length → (∀ i,i < k → 0 ≤ w.getD i 0 ∧ w.getD i 0 ≤ B) → 0 ≤ (w.take k).sum ∧ (w.take k).sum ≤ k * B
  | 0,_,_ => by simp
  | k + 1,hk,h => by
    have h1:=sum_takeB w B (k:=k) (by omega) fun i hi => h i (by omega)
    have h2:=h k (by omega)
    rw [sum_take_succ w (by omega)]
    have h3:((k + 1:Nat):Int) * B = k * B + B:=by rw [Int.natCast_add,Int.add_mul]; simp
    omega
theorem mul_bound {k n:Nat} {B:Int} (h:k ≤ n) (hB:0 ≤ B):(k:Int) * B ≤ n * B:=Int.mul_le_mul_of_nonneg_right (by omega) hB

variable {S:AM.Sys} (hS:Only S 5)
include hS

theorem Problem_runs (e:Int) (v:Value) (w:List Int) (r o:Nat) (H:Heap) (hL:H.low ≤ H.size) (hl:SlI .i64 H v w r o) :
    Runs Tryz.prog S (.fn 11) [.int .i64 e,v] H (.bool (decide (Prob e w))) H:=by
  suffices h:WCall Tryz.prog S (.fn 11) [.int .i64 e,v] H (fun v H' => v = .bool (decide (Prob e w)) ∧ H' = H) by
    obtain ⟨_,_,hr,rfl,rfl⟩:=h; exact hr
  obtain ⟨a,cap,rfl⟩:=hl.v0;refine Zaaw Tryz.func11 rfl (Nat.le_of_ble_eq_true rfl) (hS.no rfl _ _) ?_
  rw [Tryz.ntmps11,Tryz.results11]
  repeat' (first | (with_reducible refine Zacf (fun h => ?_) (fun h => ?_)) | (with_reducible refine Zace (fun h => ?_) (fun h => ?_)) | (with_reducible refine sxIfB_sp (fun h => ?_) (fun h => ?_)) | simp only [↓Zabs,↓Zabp,↓Zabr,↓Zaae,↓Zaaf,↓Zabm,↓Zabq,↓Zacj,↓Zaci,↓Zaco,↓Zaav,↓Zaaq,↓Zaaj,↓Zaar,↓Zaak,↓Zaao,↓bxPut,↓Zabk,↓Zabl,↓Zabi,↓Zacm,↓Zacn,↓Zacp,↓Zaba,↓Zaay,↓dstAt,↓Zabc,Zack,Zaab,Zabd,aPick_true,aPick_false,sxGuardB_ft,sxGuardB_ff,Zach,Zabg,↓reduceIte,Nat.reduceEqDiff,Nat.reduceLT,dec_T,dec_F,and_true, *,argF,List.getD_cons_zero,List.getD_cons_succ,lenI])
  · exact bool_f fun hh => by have:=hh.2.1; omega
  · have hn:w.length ≤ 7 ∧ 1 ≤ w.length:=by omega
    have he:0 ≤ e ∧ e ≤ 100000:=by omega
    refine sxL_of (fun m ρ H1 => ∃ k:Nat,m = w.length - k ∧ k ≤ w.length ∧ H1 = H ∧ (∀ i,i < k → 0 ≤ w.getD i 0 ∧ w.getD i 0 ≤ 100000) ∧ ρ 0 = .int .i64 e ∧ ρ 1 = .slice a w.length cap ∧ ρ 5 = .int .i64 (w.take k).sum ∧ ρ 6 = .int .i64 k)
      ⟨0,rfl,Nat.zero_le _,rfl,fun i hi => absurd hi (Nat.not_lt_zero i),rfl,rfl,rfl,rfl⟩ ?_
    clear h;clear h;clear h;clear h;rintro m ρ H1 ⟨k,rfl,hk,rfl,hall,e0,e1,e5,e6⟩
    by_cases hlt:k < w.length
    · have hix:=SlI_ix hl hlt;have hrd:=(hl.rdI hlt).1;have hw:=wrap_succ hlt hl.ml;have hlt':(k:Int) < (w.length:Int):=by omega
      by_cases hx:0 ≤ w.getD k 0 ∧ w.getD k 0 ≤ 100000
      · have hall2:∀ i,i < k + 1 → 0 ≤ w.getD i 0 ∧ w.getD i 0 ≤ 100000:=fun i hi => by
          rcases Nat.lt_or_ge i k with h | h
          · exact hall i h
          · rw [show i = k by omega]; exact hx
        have g1:=sum_take_succ w hlt;have g2:=sum_takeB w 100000 (k:=k + 1) hlt hall2;have g4:=mul_bound (B:=100000) (show k + 1 ≤ 7 by omega) (by omega)
        have g3:IntKind.i64.wrap ((w.take k).sum + w.getD k 0) = (w.take (k + 1)).sum:=by rw [← g1]; exact IntWalk.i64_in _ (by omega)
        have x1:¬ w.getD k 0 < 0:=by omega
        have x2:¬ 100000 < w.getD k 0:=by omega
        clear hl g1 g2 g4
        repeat' (first | (with_reducible refine Zacf (fun h => ?_) (fun h => ?_)) | (with_reducible refine Zace (fun h => ?_) (fun h => ?_)) | (with_reducible refine sxIfB_sp (fun h => ?_) (fun h => ?_)) | simp only [↓Zabs,↓Zabp,↓Zabr,↓Zaae,↓Zabm,↓Zabo,↓Zabq,↓Zacj,↓Zaci,↓Zaco,↓Zaav,↓Zaaq,↓Zaaj,↓Zaar,↓Zaap,↓Zaak,↓Zaan,↓Zaao,↓bxPut,↓Zabk,↓Zabj,↓Zabl,↓Zaad,↓blockQ_ret,↓Zaac,↓Zabf,↓Zabe,↓loopQ_ret,↓Zabi,↓Zacm,↓Zacn,↓Zacp,↓Zaba,↓Zaay,↓dstAt,↓Zabc,Zack,Zaab,Zabd,aPick_false,sxGuardB_ff,Zach,Zacg,Zabg,↓reduceIte,Nat.reduceEqDiff,Nat.reduceLT,dec_T,dec_F,true_and,one1,Option.bind_some, *,lenI,ldI])
        exact ⟨_,by omega,k + 1,rfl,by omega,hall2,rfl,rfl⟩
      · have hf:¬ Prob e w:=fun hh => hx (hh.2.2.1 _ (Zabb (d:=0) hlt))
        clear hl
        by_cases x1:w.getD k 0 < 0
        · repeat' (first | (with_reducible refine Zacf (fun h => ?_) (fun h => ?_)) | (with_reducible refine Zace (fun h => ?_) (fun h => ?_)) | (with_reducible refine sxIfB_sp (fun h => ?_) (fun h => ?_)) | simp only [↓Zabs,↓Zabp,↓Zabr,↓Zaae,↓Zabm,↓Zabo,↓Zabq,↓Zacj,↓Zaci,↓Zaco,↓Zaav,↓Zaaq,↓Zaaj,↓Zaar,↓Zaap,↓Zaak,↓Zaan,↓Zaao,↓bxPut,↓Zabk,↓Zabj,↓Zabl,↓Zaad,↓blockQ_ret,↓Zaac,↓Zabf,↓Zabe,↓loopQ_ret,↓Zabi,↓Zacm,↓Zacn,↓Zacp,↓Zaba,↓Zaay,↓dstAt,↓Zabc,Zack,Zaab,Zabd,aPick_true,sxGuardB_ft,Zach,Zabg,↓reduceIte,Nat.reduceEqDiff,Nat.reduceLT,dec_T,dec_F,and_self,one1,Option.bind_some, *,lenI,ldI])
          all_goals first | exact bool_f hf | skip
        · have x2:100000 < w.getD k 0:=by omega
          repeat' (first | (with_reducible refine Zacf (fun h => ?_) (fun h => ?_)) | (with_reducible refine Zace (fun h => ?_) (fun h => ?_)) | (with_reducible refine sxIfB_sp (fun h => ?_) (fun h => ?_)) | simp only [↓Zabs,↓Zabp,↓Zabr,↓Zaae,↓Zabm,↓Zabo,↓Zabq,↓Zacj,↓Zaci,↓Zaco,↓Zaav,↓Zaaq,↓Zaaj,↓Zaar,↓Zaap,↓Zaak,↓Zaan,↓Zaao,↓bxPut,↓Zabk,↓Zabj,↓Zabl,↓Zaad,↓blockQ_ret,↓Zaac,↓Zabf,↓Zabe,↓loopQ_ret,↓Zabi,↓Zacm,↓Zacn,↓Zacp,↓Zaba,↓Zaay,↓dstAt,↓Zabc,Zack,Zaab,Zabd,aPick_false,sxGuardB_ff,Zach,Zabg,↓reduceIte,Nat.reduceEqDiff,Nat.reduceLT,dec_T,dec_F,and_self,one1,Option.bind_some, *,lenI,ldI])
          all_goals first | exact bool_f hf | skip
    · have hlt':¬ (k:Int) < (w.length:Int):=by omega
      have g:w.take k = w:=List.take_of_length_le (by omega)
      have hq:∀ x ∈ w,0 ≤ x ∧ x ≤ 100000:=all_of (d:=0) fun i hi => hall i (by omega)
      rw [g] at e5;clear hl
      repeat' (first | (with_reducible refine Zacf (fun h => ?_) (fun h => ?_)) | (with_reducible refine Zace (fun h => ?_) (fun h => ?_)) | (with_reducible refine sxIfB_sp (fun h => ?_) (fun h => ?_)) | simp only [↓Zabs,↓Zabp,↓Zabr,↓Zaae,↓Zabm,↓Zabo,↓Zabq,↓Zacj,↓Zaci,↓Zaco,↓Zaav,↓Zaaq,↓Zaaj,↓Zaar,↓Zaap,↓Zaak,↓Zaan,↓Zaao,↓bxPut,↓Zabk,↓Zabj,↓Zabl,↓Zaad,↓blockQ_ret,↓Zaac,↓Zabf,↓Zabe,↓loopQ_ret,↓Zabi,↓Zacm,↓Zacn,↓Zacp,↓Zaba,↓Zaay,↓dstAt,↓Zabc,Zack,Zaab,Zabd,Zacg,Zabg,↓reduceIte,Nat.reduceEqDiff,Nat.reduceLT,dec_F,and_true, *,lenI])
      exact bool_d ⟨fun hh => ⟨he,by omega,hq,hh⟩,fun hh => hh.2.2.2⟩
  · exact bool_f fun hh => by have:=hh.2.1; omega
  · exact bool_f fun hh => by have:=hh.1; omega
  · exact bool_f fun hh => by have:=hh.1; omega

end Go.Proofs.YtpeoleimmabceaaGreat.Q
namespace Go.Proofs.YtpeoleimmabceaaGreat
open Go Go.AM
set_option maxRecDepth 10000

theorem newQ {H:Heap} {v:Value} {n d:Int} (hq:QV H v n d):∃ Ha Hb,aAlloc Tryz.prog H 53 = some (.pointer (some ⟨H.size,0,none⟩),Ha) ∧ aStore Tryz.prog Ha 53 (.pointer (some ⟨H.size,0,none⟩)) v = some Hb ∧ Keep H Hb ∧ Own Hb H.size 53 v.cells.toList ∧ QV Hb v n d:=by
  obtain ⟨Ha,e1,k1,_,_,_⟩:=box1 H [.bool false,.slice none 0 0,.bool false,.slice none 0 0] 53;have ow:Own Ha H.size 53 [.bool false,.slice none 0 0,.bool false,.slice none 0 0]:=e1 ▸ Own.new H _ _;obtain ⟨Hb,h1,h2,h3,h4,h5,h6⟩:=storeQ ow QShape.empty (hq.keep k1);exact ⟨Ha,Hb,by rw [alQ,e1],h1,h6 H k1 (Nat.le_refl _),h3,h4 _ _ _ (hq.keep k1)⟩
def PostRl (c:List Int) (rule e:Int) (H:Heap) (u:Value) (H':Heap):Prop:=
  ∃ (D:Int) (ws:List Int) (r o:Nat),(1 ≤ D ∧ D ≤ 1000000) ∧ ws.length = c.length ∧ (∀ i,i < c.length → 0 ≤ ws.getD i 0 ∧ ws.getD i 0 ≤ c.getD i 0 * D) ∧ Awd RunR rule e c ws D ∧ Keep H H' ∧ Grp H' ∧ SlE (qdE D) H' u ws r o
theorem qd_scale {H:Heap} {v:Value} {xs:List Int} {r o:Nat} {D k:Int} (hD:0 < D) (h:SlE (qdE D) H v xs r o):SlE (qdE (D * k)) H v (xs.map fun x => x * k) r o where
  isv:=by simpa using h.isv
  rd:=fun i hi => by
    have hi:i < xs.length:=by simpa using hi
    obtain ⟨es,h1,h2⟩:=h.rd i hi;refine ⟨es,h1,?_⟩;have hx:(xs.map fun x => x * k).getD i default = xs.getD i default * k:=by
      rw [List.getD_eq_getElem?_getD,List.getD_eq_getElem?_getD,List.getElem?_map,List.getElem?_eq_getElem hi]; rfl
    rw [hx];exact QV.as h2 hD (by ac_rfl)
  lt:=fun h0 => h.lt (by simpa using h0)
  ml:=by simpa using h.ml
theorem map_mul_at {xs:List Int} {k:Int} {i:Nat} (hi:i < xs.length):(xs.map fun x => x * k).getD i 0 = xs.getD i 0 * k:=by
  rw [List.getD_eq_getElem?_getD,List.getD_eq_getElem?_getD,List.getElem?_map,List.getElem?_eq_getElem hi]; rfl
theorem map_mul_sum (xs:List Int) (k:Int):(xs.map fun x => x * k).sum = xs.sum * k:=by
  induction xs with
  | nil => simp
  | cons x l ih => rw [List.map_cons,List.sum_cons,List.sum_cons,ih,Int.add_mul]

variable {S:AM.Sys} (hS:Only S 5)
include hS

theorem Zero_runs (v:Value) (z:Int) (lo:Nat) (H:Heap) (hb:BigIs H v z lo):∃ H',Keep H H' ∧ Runs Tryz.prog S (.fn 29) [v] H (.bool (decide (z = 0))) H':=by
  suffices h:WCall Tryz.prog S (.fn 29) [v] H (fun u H' => u = .bool (decide (z = 0)) ∧ Keep H H') by
    obtain ⟨_,H',hr,rfl,h⟩:=h; exact ⟨H',h,hr⟩
  obtain ⟨v',w,r,o,rfl,hs,hd,hn,hv,_⟩:=hb;obtain ⟨a,c,rfl⟩:=hs.v0;obtain ⟨H1,b1,hK1,hs1,zz1,hr1⟩:=box1 H [.bool (decide (z < 0)),.slice a w.length c] 51;have q1:H1.read H.size 1 1 = some [.slice a w.length c]:=hr1 1 1 (show 1 + 1 ≤ 2 by omega)
  have hc1:(Value.agg ⟨[.bool (decide (z < 0)),.slice a w.length c]⟩).cells.toList = [.bool (decide (z < 0)),.slice a w.length c]:=rfl;have hz:=val_zero hd hn;rw [hv] at hz;have dz:decide ((w.length:Int) = 0) = decide (z = 0):=decide_eq_decide.2 (by omega)
  have faB (r o:Nat):aFieldAt Tryz.prog 51 1 (.pointer (some ⟨r,o,none⟩)) = some (.pointer (some ⟨r,o + 1,none⟩)):=by kernel_rfl
  refine Zaaw Tryz.func29 rfl (Nat.le_of_ble_eq_true rfl) (hS.no rfl _ _) ?_
  rw [Tryz.ntmps29,Tryz.results29];clear hs hd hn hv hz hr1 zz1
  repeat' (first | (with_reducible refine Zacf (fun h => ?_) (fun h => ?_)) | (with_reducible refine Zace (fun h => ?_) (fun h => ?_)) | (with_reducible refine sxIfB_sp (fun h => ?_) (fun h => ?_)) | simp only [↓Zabs,↓Zabn,↓Zabp,↓Zabr,↓Zaae,↓Zaaf,↓Zabm,↓Zabo,↓sxC_goto,↓Zabq,↓Zacj,↓Zaci,↓Zacd,↓Zaag,↓Zacb,↓sxDL_assign,↓sxDL_pick,↓sxDL_alloc,↓sxDL_box,↓sxDL_build,↓sxDL_buildSlice,↓sxDL_insert,↓Zaca,↓sxDL_nilCheck,↓Zabw,↓sxDL_unOp,↓sxDL_convert,↓sxDL_makeInterface,↓sxDL_makeFunc,↓sxDL_makeMap,↓sxDL_makeSlice,↓sxDL_slice,↓Zaby,↓sxDL_field,↓Zabz,↓sxDL_index,↓sxDL_typeAssert,↓sxDL_extract,↓sxDL_lookup,↓sxDL_mapUpdate,↓sxDL_range,↓sxDL_next,↓sxDL_entry,↓sxDL_mapEntry,↓sxDL_entryStore,↓sxD_same,↓Zaco,↓Zaav,↓Zaaq,↓Zaaj,↓Zaar,↓Zaah,↓bxOp_box,↓bxOp_build,↓Zaal,↓Zaap,↓Zaas,↓bxOp_nilCheck,↓Zaak,↓bxOp_un,↓bxOp_makeI,↓bxOp_makeFunc,↓bxOp_makeSlice,↓bxOp_slice,↓Zaam,↓bxOp_field,↓Zaan,↓bxOp_index,↓bxOp_assert,↓bxOp_extract,↓Zaat,↓Zaao,↓bxOp_cap,↓Zaai,↓bxOp_copy,↓bxOp_clear,↓bxOp_max,↓bxOp_min,↓bxOp_convert,↓Zacl,↓bxPut,↓Zabk,↓Zabj,↓Zabl,↓seqQ_goto,↓Zaad,↓blockQ_ret,↓blockQ_goto,↓Zaac,↓Zabf,↓Zabe,↓loopQ_ret,↓loopQ_goto,↓resQ_normal,↓Zabi,↓Zacm,↓Zacn,↓Zaau,↓Zacp,↓Zaba,↓Zaay,↓ev_global,↓Zaaz,↓dstAt,↓Zabc,cutQ_exit,cutQ_ret,cutQ_goto,binP_str,eql_str,neq_str,aConvH_int,aConvH_str,aConvH_some,aSliceH_slice,aSliceH_ptr,aSliceH_str,Zack,sxOptB_ite,mm_max,mm_min,binP_shl,binP_shr,Zaab,Zabd,una_not_dec,una_nt,una_nf,una_neg,aPick_true,aPick_false,Zabt,sxCallVB_yield,sxGuardB_u,sxGuardB_tt,sxGuardB_tf,sxGuardB_ft,sxGuardB_ff,Zach,Zacg,Zabg,packRes_two,List.map_cons,List.map_nil,List.nil_append,List.cons_append,List.append_nil,↓reduceIte,Nat.reduceEqDiff,Nat.reduceLT,dec_T,dec_F,false_imp,true_and,and_true,true_implies,implies_true,false_and,and_false,true_or,or_true,false_or,or_false,and_self,or_self,read_relow,size_relow,low_relow,relow_relow,Zaaa,Nat.add_zero,Nat.mul_one,one1,Option.bind_some,ne_eq,Int.natCast_nonneg,Int.toNat_natCast,not_true_eq_false,not_false_eq_true,Option.map_some,Option.map_none, *,argF,List.getD_cons_zero,List.getD_cons_succ,lenI,ldIs,hc1,one1,Nat.zero_add] | (with_reducible first | refine Zabv (by assumption) (by decide +kernel) ?_ | refine Zabu (by decide +kernel) ?_ | refine Zacc (by decide +kernel) ?_ | refine Zabx ?_))

theorem rule_pre (e:Int) (v:Value) (c:List Int) (r o:Nat) (H:Heap) (hg:Grp H) (hL:H.low ≤ H.size) (hl:SlI .i64 H v c r o) (hp:Q.Prob e c) :
    ∃ v7 r7 o7 H1 ve H2 Ha H4 vt H5 Hb H7 vm H8 Hc H10,Keep H H10 ∧ Grp H10 ∧ SlE (qdE 1) H10 v7 c r7 o7 ∧ QV H10 ve e 1 ∧ QV H10 vt c.sum 1 ∧ QV H10 vm (c.sum - e) 1 ∧
      Own H10 H2.size 53 ve.cells.toList ∧ Own H10 H5.size 53 vt.cells.toList ∧ Own H10 H8.size 53 vm.cells.toList ∧
      (∀ (K:Value → Heap → Prop) (b:Blk K),sxCallB Tryz.prog S (.fn 24) [v] H K b = K v7 H1) ∧ (∀ (K:Value → Heap → Prop) (b:Blk K),sxCallB Tryz.prog S (.fn 23) [.int .i64 e,.int .i64 1] H1 K b = K ve H2) ∧
      aAlloc Tryz.prog H2 53 = some (.pointer (some ⟨H2.size,0,none⟩),Ha) ∧ aStore Tryz.prog Ha 53 (.pointer (some ⟨H2.size,0,none⟩)) ve = some H4 ∧
      (∀ (K:Value → Heap → Prop) (b:Blk K),sxCallB Tryz.prog S (.fn 25) [v7] H4 K b = K vt H5) ∧ aAlloc Tryz.prog H5 53 = some (.pointer (some ⟨H5.size,0,none⟩),Hb) ∧ aStore Tryz.prog Hb 53 (.pointer (some ⟨H5.size,0,none⟩)) vt = some H7 ∧
      aLoad Tryz.prog H7 53 (.pointer (some ⟨H5.size,0,none⟩)) = some vt ∧ aLoad Tryz.prog H7 53 (.pointer (some ⟨H2.size,0,none⟩)) = some ve ∧ (∀ (K:Value → Heap → Prop) (b:Blk K),sxCallB Tryz.prog S (.fn 26) [vt,ve] H7 K b = K vm H8) ∧
      aAlloc Tryz.prog H8 53 = some (.pointer (some ⟨H8.size,0,none⟩),Hc) ∧ aStore Tryz.prog Hc 53 (.pointer (some ⟨H8.size,0,none⟩)) vm = some H10:=by
  have h7:=hp.2.1;have hc:=hp.2.2.1;have he:=hp.1;have hs:=hp.2.2.2;have hsm:=Q.sum_le 100000 c fun x hx => (hc x hx).2
  have hnn:∀ k,0 ≤ (c.take k).sum ∧ (c.take k).sum ≤ c.sum:=Q.sum_take_le c (fun x hx => (hc x hx).1)
  obtain ⟨H1,v7,r7,o7,k1,g1,s7,R1⟩:=rWhole_runs hS v c r o H hg hL hl (by omega)
  have lo1:=k1.low hL;obtain ⟨H2,ve,k2,g2,qe,R2⟩:=Frac_any hS e 1 H1 g1 lo1 (by omega) (by omega) (by omega)
  obtain ⟨Ha,H4,al3,st4,k4,ow4,qe4⟩:=newQ qe;have K4:=(k1.trans k2).trans k4;have s74:=(s7.keep k2).keep k4;obtain ⟨H5,vt,k5,g5,qt,R5⟩:=rTotal_runs hS v7 c 1 r7 o7 H4 (K4.grp hg) (K4.low hL) s74 (by omega) (by omega) (fun k _ => ⟨by have:=hnn k; omega,by have:=hnn k; omega⟩) (fun i hi => by have:=hc _ (Zabb (d:=0) hi); exact ⟨by omega,by omega⟩)
  obtain ⟨Hb,H7,al6,st7,k7,ow7,qt7⟩:=newQ qt;have K7:=(K4.trans k5).trans k7;have ow47:=(ow4.keep k5).keep k7;have qe7:=(qe4.keep k5).keep k7;have sm1:Sml 1:=⟨by omega,by omega⟩
  have sme:Sml e:=⟨by omega,by omega⟩
  have smt:Sml c.sum:=⟨by omega,by omega⟩
  obtain ⟨H8,vm,k8,g8,qm,R8⟩:=Sub_all hS vt ve c.sum 1 e 1 H7 (K7.grp hg) (K7.low hL) qt7 qe7 (by omega) (by omega) smt.lt sm1.lt' sme.lt sm1.lt'
  rw [Int.mul_one,Int.mul_one,Int.mul_one] at qm;obtain ⟨Hc,H10,al9,st10,k10,ow10,qm10⟩:=newQ qm;have K10:=(K7.trans k8).trans k10
  exact ⟨v7,r7,o7,H1,ve,H2,Ha,H4,vt,H5,Hb,H7,vm,H8,Hc,H10,K10,K10.grp hg,(((s74.keep k5).keep k7).keep k8).keep k10,(qe7.keep k8).keep k10,(qt7.keep k8).keep k10,qm10,(ow47.keep k8).keep k10,(ow7.keep k8).keep k10,ow10,
    R1.bx,R2.bx,al3,st4,R5.bx,al6,st7,own_ldQ ow7 qt7,own_ldQ ow47 qe7,R8.bx,al9,st10⟩
end Go.Proofs.YtpeoleimmabceaaGreat
