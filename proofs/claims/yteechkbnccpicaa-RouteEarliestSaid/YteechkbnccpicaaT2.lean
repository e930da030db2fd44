/- Looking up: binary search. -/
import Derived.Test.YteechkbnccpicaaS1P
set_option linter.unusedVariables false
set_option linter.unusedSimpArgs false
set_option linter.unusedSectionVars false

namespace Go.Proofs.Yteechkbnccpicaa
open Go Go.AM
set_option maxRecDepth 10000

theorem cvI2U (z:Int):aConv Try.prog 3 108 (.int .i64 z) = some (.int .u64 (IntKind.u64.wrap z)):=by kernel_rfl
theorem cvU2I (z:Int):aConv Try.prog 108 3 (.int .u64 z) = some (.int .i64 (IntKind.i64.wrap z)):=by kernel_rfl
def cmp3 (x y:Int):Int:=if x < y then -1 else if y < x then 1 else 0
variable {S:AM.Sys} (hS:Only S 11)
include hS

theorem isNaNv_runs (x:Int) (H:Heap):Runs Try.prog S (.fn 79) [.int .i64 x] H (.bool false) H:=by
  suffices h:WCall Try.prog S (.fn 79) [.int .i64 x] H (fun v H' => v = .bool false ∧ H' = H) by
    obtain ⟨_,_,hr,rfl,rfl⟩:=h; exact hr
  have d:decide (¬ x = x) = false:=decide_eq_false fun h => h rfl
  refine Zaba Try.func79 rfl (Nat.le_of_ble_eq_true rfl) (hS.no rfl _ _) ?_
  rw [Try.ntmps79,Try.results79]
  repeat' simp only [↓Zabx,↓Zabz,↓Zaby,↓Zacw,↓Zacv,↓Zadb,↓Zaau,↓Zaam,↓Zaan,↓bxPut,↓Zabs,↓Zabq,↓Zacz,↓Zada,↓Zadc,↓Zabg,↓Zabe,Zacx,Zaae,Zabi,Zabm,↓reduceIte,Nat.reduceEqDiff,Nat.reduceLT,dec_F,and_self,not_true_eq_false, *,argF,List.getD_cons_zero]
theorem cmpV_runs (x y:Int) (H:Heap):Runs Try.prog S (.fn 60) [.int .i64 x,.int .i64 y] H (.int .i64 (cmp3 x y)) H:=by
  suffices h:WCall Try.prog S (.fn 60) [.int .i64 x,.int .i64 y] H (fun v H' => v = .int .i64 (cmp3 x y) ∧ H' = H) by
    obtain ⟨_,_,hr,rfl,rfl⟩:=h; exact hr
  have f1:=(isNaNv_runs hS x H).bx;have f2:=(isNaNv_runs hS y H).bx;obtain ⟨z,hz⟩:∃ z,z = cmp3 x y:=⟨_,rfl⟩;rw [← hz];unfold cmp3 at hz;refine Zaba Try.func60 rfl (Nat.le_of_ble_eq_true rfl) (hS.no rfl _ _) ?_
  rw [Try.ntmps60,Try.results60]
  by_cases h1:x < y
  · rw [if_pos h1] at hz;subst hz
    repeat' simp only [↓Zaca,↓Zabx,↓Zabz,↓Zaai,↓Zaby,↓Zacw,↓Zacv,↓Zadb,↓Zaau,↓Zaam,↓Zaan,↓Zaay,↓bxPut,↓Zabs,↓Zabt,↓Zabq,↓Zacz,↓Zada,↓Zadc,↓Zabg,↓Zabe,↓Zabf,Zacx,Zaae,Zabi,Zacb,Zacu,Zact,Zabm,List.map,List.nil_append,List.append_nil,↓reduceIte,Nat.reduceEqDiff,Nat.reduceLT,dec_T,and_self, *,argF,List.getD_cons_zero,List.getD_cons_succ]
  · rw [if_neg h1] at hz
    by_cases h2:y < x
    · rw [if_pos h2] at hz;subst hz
      repeat' simp only [↓Zaca,↓Zabx,↓Zabz,↓Zaai,↓Zaby,↓Zacw,↓Zacv,↓Zadb,↓Zaau,↓Zaam,↓Zaan,↓Zaay,↓bxPut,↓Zabs,↓Zabt,↓Zabq,↓Zacz,↓Zada,↓Zadc,↓Zabg,↓Zabe,↓Zabf,Zacx,Zaae,Zabi,Zacb,Zacu,Zact,Zabm,List.map,List.nil_append,List.append_nil,↓reduceIte,Nat.reduceEqDiff,Nat.reduceLT,dec_T,dec_F,and_self, *,argF,List.getD_cons_zero,List.getD_cons_succ]
    · rw [if_neg h2] at hz;subst hz
      repeat' simp only [↓Zaca,↓Zabx,↓Zabz,↓Zaai,↓Zaby,↓Zacw,↓Zacv,↓Zadb,↓Zaau,↓Zaam,↓Zaan,↓Zaay,↓bxPut,↓Zabs,↓Zabt,↓Zabq,↓Zacz,↓Zada,↓Zadc,↓Zabg,↓Zabe,↓Zabf,Zacx,Zaae,Zabi,Zacb,Zact,Zabm,List.map,List.nil_append,List.append_nil,↓reduceIte,Nat.reduceEqDiff,Nat.reduceLT,dec_F,and_self, *,argF,List.getD_cons_zero,List.getD_cons_succ]

theorem lookC_runs (x:Pt) (z:Int) (H:Heap):∃ H',Keep H H' ∧ Runs Try.prog S (.fn 59) [.agg ⟨pc x⟩,.int .i64 z] H (.int .i64 (cmp3 x.1 z)) H':=by
  suffices h:WCall Try.prog S (.fn 59) [.agg ⟨pc x⟩,.int .i64 z] H (fun v H' => v = .int .i64 (cmp3 x.1 z) ∧ Keep H H') by
    obtain ⟨_,H',hr,rfl,hk⟩:=h; exact ⟨H',hk,hr⟩
  obtain ⟨H1,e1,hK1,r2,r0,r1⟩:=boxP H x;have f1:=(cmpV_runs hS x.1 z H1).bx;refine Zaba Try.func59 rfl (Nat.le_of_ble_eq_true rfl) (hS.no rfl _ _) ?_
  rw [Try.ntmps59,Try.results59]
  repeat' simp only [↓Zabx,↓Zabz,↓Zaby,↓Zacw,↓Zacv,↓Zadb,↓Zaau,↓Zaam,↓bxOp_box,↓Zaat,↓Zaaq,↓Zaay,↓bxPut,↓Zabs,↓Zabq,↓Zacz,↓Zada,↓Zadc,↓Zabg,↓Zabe,↓Zabf,Zacx,Zacb,Zabm,List.map,List.nil_append,List.append_nil,↓reduceIte,Nat.reduceEqDiff,Nat.reduceLT,and_self,Nat.add_zero,one1,Option.bind_some, *,argF,List.getD_cons_zero,List.getD_cons_succ,Zabb,faS0,ldC,one1]

set_option maxHeartbeats 2000000 in
theorem binS_runs (w:List Pt) (v:Value) (r o:Nat) (z:Int) (H:Heap) (hl:SlP H v w r o) (hok:ProfOk w) :
    ∃ i b H',FirstP w z i ∧ Keep H H' ∧ Runs Try.prog S (.fn 58) [v,.int .i64 z,.func (.func 59) ⟨[]⟩ ⟨[]⟩] H (.tuple ⟨[.int .i64 (i:Nat),.bool b]⟩) H':=by
  suffices h:WCall Try.prog S (.fn 58) [v,.int .i64 z,.func (.func 59) ⟨[]⟩ ⟨[]⟩] H (fun u H' => ∃ (i:Nat) (b:Bool),FirstP w z i ∧ Keep H H' ∧ u = .tuple ⟨[.int .i64 (i:Nat),.bool b]⟩) by
    obtain ⟨_,H',hr,i,b,hi,hk,rfl⟩:=h; exact ⟨i,b,H',hi,hk,hr⟩
  obtain ⟨a,c,rfl⟩:=hl.v0;have ny:notYield (.func 59) = true:=rfl;have h1000:=hok.1;refine Zaba Try.func58 rfl (Nat.le_of_ble_eq_true rfl) (hS.no rfl _ _) ?_
  rw [Try.ntmps58,Try.results58]
  repeat' simp only [↓Zabx,↓Zabz,↓Zaaj,↓Zabu,↓Zaby,↓Zacw,↓Zacv,↓Zadb,↓Zaaz,↓Zaau,↓Zaam,↓Zaav,↓Zaat,↓Zaan,↓Zaar,↓Zaay,↓Zaas,↓bxPut,↓Zabs,↓Zabq,↓Zacz,↓Zada,↓Zadc,↓Zabg,↓Zabe,↓dstAt,↓Zabh,Zacx,Zabn,↓reduceIte,Nat.reduceEqDiff,Nat.reduceLT, *,argF,List.getD_cons_zero,lenS]
  refine sxL_of (fun m ρ H1 => ∃ i j:Nat,m = j - i ∧ i ≤ j ∧ j ≤ w.length ∧ Keep H H1 ∧ (∀ k,k < i → (w.getD k default).1 < z) ∧ (∀ k,j ≤ k → k < w.length → z ≤ (w.getD k default).1) ∧
      ρ 0 = .slice a w.length c ∧ ρ 1 = .int .i64 z ∧ ρ 2 = .func (.func 59) ⟨[]⟩ ⟨[]⟩ ∧ ρ 8 = .int .i64 (w.length:Int) ∧ ρ 9 = .int .i64 (i:Int) ∧ ρ 10 = .int .i64 (j:Int))
    ⟨0,w.length,rfl,Nat.zero_le _,Nat.le_refl _,Keep.refl _,fun k hk => absurd hk (Nat.not_lt_zero k),fun k h1 h2 => by omega,rfl,rfl,rfl,rfl,rfl,rfl⟩ ?_
  rintro m ρ H1 ⟨i,j,rfl,hij,hj,hK1,hlo,hhi,e0,e1,e2,e8,e9,e10⟩
  by_cases hlt:i < j
  · have hlt':(i:Int) < (j:Int):=by omega
    have hgh:∃ h:Nat,h = (i + j) / 2:=⟨_,rfl⟩;obtain ⟨h,hh⟩:=hgh;have hw1:IntKind.i64.wrap ((i:Int) + (j:Int)) = ((i:Int) + (j:Int)):=IntWalk.i64_in _ (by omega)
    have hw2:IntKind.u64.wrap ((i:Int) + (j:Int)) = ((i:Int) + (j:Int)):=IntWalk.u64_in _ (by omega)
    have hw3:IntKind.i64.wrap ((h:Int)) = (h:Int):=IntWalk.i64_in _ (by omega)
    have hw4:IntKind.i64.wrap ((h:Int) + 1) = ((h + 1:Nat):Int):=by rw [IntWalk.i64_in _ (by omega)]; omega
    have hsh:binP Try.prog .shr 108 (.int .u64 ((i:Int) + (j:Int))) (.int .u64 1) = some (.int .u64 (h:Int)):=by
      rw [binP_shr];show (if (0:Int) ≤ 1 then some (Value.int .u64 (((i:Int) + (j:Int)).fdiv (2 ^ min (1:Int).toNat IntKind.u64.bits))) else none) = _
      rw [if_pos (by decide),show (2:Int) ^ min (1:Int).toNat IntKind.u64.bits = 2 by decide,Int.fdiv_eq_ediv_of_nonneg _ (by decide)]
      congr 2;omega
    have hh1:i ≤ h:=by omega
    have hh2:h < j:=by omega
    have hhl:h < w.length:=by omega
    clear hh;have hob:=SlP_at (hl.keep hK1) hhl;obtain ⟨q,hix,hrd,_,_,_,_⟩:=hob;have hcl:=lookC_runs hS (w.getD h default) z H1;obtain ⟨H2,hK2,hR⟩:=hcl;have f1:=hR.bx;unfold pc at hrd f1;have hK12:=hK1.trans hK2
    by_cases c1:(w.getD h default).1 < z
    · have hz:cmp3 (w.getD h default).1 z < 0:=by unfold cmp3; rw [if_pos c1]; decide
      have hlo':∀ k,k < h + 1 → (w.getD k default).1 < z:=fun k hk => by
        rcases Nat.lt_or_ge k h with h1 | h1
        · have:=(hok.2.lt h1 hhl).1; omega
        · rw [show k = h by omega]; exact c1
      clear hlo hl hR hK1 hK2
      repeat' simp only [↓Zaca,↓Zabx,↓Zabz,↓Zaai,↓Zabu,↓Zabw,↓Zacw,↓Zacv,↓Zadb,↓Zaau,↓Zaam,↓Zaat,↓Zaan,↓Zaar,↓Zaay,↓bxOp_convert,↓bxPut,↓Zabs,↓Zabr,↓Zaag,↓Zaaf,↓Zabk,↓Zabj,↓Zadc,↓Zabg,↓Zabe,aConvH_int,Zacx,Zaae,Zabi,Zacb,Zacu,List.map,List.nil_append,List.append_nil,↓reduceIte,Nat.reduceEqDiff,Nat.reduceLT,dec_T,true_and,Option.map_some, *,ldS,cvI2U,cvU2I]
      exact ⟨j - (h + 1),by omega,h + 1,j,rfl,by omega,hj,hlo',hhi,rfl,rfl⟩
    · have hz:¬ cmp3 (w.getD h default).1 z < 0:=by unfold cmp3; rw [if_neg c1]; split <;> decide
      have hhi':∀ k,h ≤ k → k < w.length → z ≤ (w.getD k default).1:=fun k h1 h2 => by
        rcases Nat.lt_or_ge h k with h3 | h3
        · have:=(hok.2.lt h3 h2).1; omega
        · rw [show k = h by omega]; omega
      clear hhi hl hR hK1 hK2
      repeat' simp only [↓Zaca,↓Zabx,↓Zabz,↓Zaai,↓Zabu,↓Zabw,↓Zacw,↓Zacv,↓Zadb,↓Zaau,↓Zaam,↓Zaat,↓Zaan,↓Zaar,↓Zaay,↓bxOp_convert,↓bxPut,↓Zabs,↓Zabr,↓Zaag,↓Zaaf,↓Zabk,↓Zabj,↓Zadc,↓Zabg,↓Zabe,aConvH_int,Zacx,Zaae,Zabi,Zacb,Zacu,Zact,List.map,List.nil_append,List.append_nil,↓reduceIte,Nat.reduceEqDiff,Nat.reduceLT,dec_T,dec_F,true_and,Option.map_some, *,ldS,cvI2U,cvU2I]
      exact ⟨h - i,by omega,i,h,rfl,by omega,by omega,hlo,hhi',rfl,rfl⟩
  · have hlt':¬ (i:Int) < (j:Int):=by omega
    have hij2:i = j:=by omega
    subst hij2;have hfp:FirstP w z i:=⟨hj,hlo,fun h => hhi i (Nat.le_refl _) h⟩
    by_cases hn:i < w.length
    · have hn':(i:Int) < (w.length:Int):=by omega
      have hob:=SlP_at (hl.keep hK1) hn;obtain ⟨q,hix,hrd,_,_,_,_⟩:=hob;have hcl:=lookC_runs hS (w.getD i default) z H1;obtain ⟨H2,hK2,hR⟩:=hcl;have f1:=hR.bx;unfold pc at hrd f1;have hK12:=hK1.trans hK2;clear hlo hhi hl hR hK1 hK2
      repeat' simp only [↓Zaca,↓Zabx,↓Zabz,↓Zaai,↓Zabu,↓Zabw,↓Zacw,↓Zacv,↓Zadb,↓Zaau,↓Zaam,↓Zaat,↓Zaan,↓Zaar,↓Zaay,↓bxOp_convert,↓bxPut,↓Zabs,↓Zabr,↓Zaag,↓Zaaf,↓Zabk,↓Zabj,↓Zadc,↓Zabg,↓Zabe,Zacx,Zaae,Zabi,Zaad,Zacb,Zacs,Zact,List.map,List.nil_append,List.append_nil,↓reduceIte,Nat.reduceEqDiff,Nat.reduceLT,dec_T,dec_F,true_and,Option.map_some, *,ldS]
      exact ⟨i,_,hfp,rfl⟩
    · have hn':¬ (i:Int) < (w.length:Int):=by omega
      clear hlo hhi hl
      repeat' simp only [↓Zaca,↓Zabx,↓Zabz,↓Zaai,↓Zabu,↓Zabw,↓Zacw,↓Zacv,↓Zadb,↓Zaau,↓Zaam,↓Zaat,↓Zaan,↓Zaar,↓Zaay,↓bxOp_convert,↓bxPut,↓Zabs,↓Zabr,↓Zaag,↓Zaaf,↓Zabk,↓Zabj,↓Zadc,↓Zabg,↓Zabe,Zacx,Zaae,Zabi,Zaac,Zacr,Zact,↓reduceIte,Nat.reduceEqDiff,Nat.reduceLT,dec_F,true_and, *]
      exact ⟨i,_,hfp,rfl⟩

theorem look_runs (w:List Pt) (v:Value) (r o:Nat) (z:Int) (H:Heap) (hl:SlP H v w r o) (hok:ProfOk w) :
    ∃ i H',FirstP w z i ∧ Keep H H' ∧ Runs Try.prog S (.fn 36) [v,.int .i64 z] H (.tuple ⟨[.int .i64 (if i < w.length then (w.getD i default).2 else 0),.bool (decide (i < w.length))]⟩) H':=by
  suffices h:WCall Try.prog S (.fn 36) [v,.int .i64 z] H (fun u H' => ∃ (i:Nat),FirstP w z i ∧ Keep H H' ∧ u = .tuple ⟨[.int .i64 (if i < w.length then (w.getD i default).2 else 0),.bool (decide (i < w.length))]⟩) by
    obtain ⟨_,H',hr,i,hi,hk,rfl⟩:=h; exact ⟨i,H',hi,hk,hr⟩
  obtain ⟨i,b,H1,hfp,hK1,hR⟩:=binS_runs hS w v r o z H hl hok;obtain ⟨a,c,rfl⟩:=hl.v0;have f1:=hR.bx;have ex0:aExtract (.tuple ⟨[.int .i64 (i:Int),.bool b]⟩) 0 = some (.int .i64 (i:Int)):=by kernel_rfl
  have ex1:aExtract (.tuple ⟨[.int .i64 (i:Int),.bool b]⟩) 1 = some (.bool b):=by kernel_rfl
  refine Zaba Try.func36 rfl (Nat.le_of_ble_eq_true rfl) (hS.no rfl _ _) ?_
  rw [Try.ntmps36,Try.results36]
  by_cases hn:i < w.length
  · have hn':decide ((i:Int) = (w.length:Int)) = false:=decide_eq_false (by omega)
    obtain ⟨q,hix,_,g0,g1,_,_⟩:=SlP_at (hl.keep hK1) hn;have hp:∃ j:Nat,FirstP w z j ∧ Keep H H1 ∧ Value.tuple ⟨[.int .i64 (w.getD i default).2,.bool true]⟩ = .tuple ⟨[.int .i64 (if j < w.length then (w.getD j default).2 else 0),.bool (decide (j < w.length))]⟩:=⟨i,hfp,hK1,by rw [if_pos hn,decide_eq_true hn]⟩
    clear hl hR hfp hK1 hn
    repeat' simp only [↓Zaca,↓Zabx,↓Zabz,↓Zaai,↓Zaby,↓Zacw,↓Zacv,↓Zadb,↓Zaau,↓Zaam,↓Zaat,↓Zaan,↓Zaaq,↓Zaar,↓Zaap,↓Zaay,↓Zaas,↓bxPut,↓Zabs,↓Zabt,↓Zabq,↓Zacz,↓Zada,↓Zadc,↓Zabg,↓Zabe,↓Zabf,Zacx,Zaae,Zabi,Zacb,Zact,Zabn,List.map,List.nil_append,List.append_nil,↓reduceIte,Nat.reduceEqDiff,Nat.reduceLT,one1,Option.bind_some, *,argF,List.getD_cons_zero,List.getD_cons_succ,lenS,faS1,ldC,one1,Zabn]
  · have hn2:i = w.length:=by have:=hfp.1; omega
    subst hn2;have hn':decide (((w.length:Nat):Int) = ((w.length:Nat):Int)) = true:=decide_eq_true rfl;have hp:∃ j:Nat,FirstP w z j ∧ Keep H H1 ∧ Value.tuple ⟨[.int .i64 0,.bool false]⟩ = .tuple ⟨[.int .i64 (if j < w.length then (w.getD j default).2 else 0),.bool (decide (j < w.length))]⟩:=⟨w.length,hfp,hK1,by rw [if_neg hn,decide_eq_false hn]⟩
    clear hl hR hfp hK1 hn
    repeat' simp only [↓Zaca,↓Zabx,↓Zabz,↓Zaai,↓Zaby,↓Zacw,↓Zacv,↓Zadb,↓Zaau,↓Zaam,↓Zaat,↓Zaan,↓Zaaq,↓Zaar,↓Zaap,↓Zaay,↓Zaas,↓bxPut,↓Zabs,↓Zabt,↓Zabq,↓Zacz,↓Zada,↓Zadc,↓Zabg,↓Zabe,↓Zabf,Zacx,Zaae,Zabi,Zacb,Zacu,Zabn,List.map,List.nil_append,List.append_nil,↓reduceIte,Nat.reduceEqDiff,Nat.reduceLT,dec_T, *,argF,List.getD_cons_zero,List.getD_cons_succ,lenS,Zabn]
end Go.Proofs.Yteechkbnccpicaa
