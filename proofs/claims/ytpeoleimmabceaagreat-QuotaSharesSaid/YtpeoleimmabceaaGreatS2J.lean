/- Sorting a few numbers: insertion; slices.Sort of at most 12 numbers. -/
import Derived.Test.YtpeoleimmabceaaGreatE3
set_option linter.unusedVariables false
set_option linter.unusedSimpArgs false
set_option linter.unusedSectionVars false

namespace Go.Proofs.YtpeoleimmabceaaGreat
open Go Go.AM
set_option maxRecDepth 10000
def ltI (a b:Int):Bool:=decide (a < b)
section
variable {S:AM.Sys} (hS:Only S 5)
include hS
theorem isNaN_runs (x:Int) (H:Heap):Runs Tryz.prog S (.fn 74) [.int .i64 x] H (.bool false) H:=by
  suffices h:WCall Tryz.prog S (.fn 74) [.int .i64 x] H (fun v H' => v = .bool false ∧ H' = H) by
    obtain ⟨_,_,hr,rfl,rfl⟩:=h; exact hr
  have d0:decide (¬ x = x) = false:=decide_eq_false fun h => h rfl
  refine Zaaw Tryz.func74 rfl (Nat.le_of_ble_eq_true rfl) (hS.no rfl _ _) ?_
  rw [Tryz.ntmps74,Tryz.results74]
  repeat' (first | simp only [↓Zabp,↓Zabr,↓Zabq,↓Zacj,↓Zaci,↓Zaco,↓Zaaq,↓Zaaj,↓Zaak,↓bxPut,↓Zabk,↓Zabi,↓Zacm,↓Zacn,↓Zacp,↓Zaba,↓Zaay,Zack,Zaab,Zabd,Zabg,↓reduceIte,Nat.reduceEqDiff,Nat.reduceLT,dec_F,and_self,not_true_eq_false, *,argF,List.getD_cons_zero])
theorem less_runs (x y:Int) (H:Heap):Runs Tryz.prog S (.fn 102) [.int .i64 x,.int .i64 y] H (.bool (decide (x < y))) H:=by
  suffices h:WCall Tryz.prog S (.fn 102) [.int .i64 x,.int .i64 y] H (fun v H' => v = .bool (decide (x < y)) ∧ H' = H) by
    obtain ⟨_,_,hr,rfl,rfl⟩:=h; exact hr
  have f1:=fun z => (isNaN_runs hS z H).bx
  refine Zaaw Tryz.func102 rfl (Nat.le_of_ble_eq_true rfl) (hS.no rfl _ _) ?_
  rw [Tryz.ntmps102,Tryz.results102]
  repeat' (first | simp only [↓Zabp,↓Zabr,↓Zabq,↓Zacj,↓Zaci,↓Zaco,↓Zaav,↓Zaaq,↓Zaaj,↓Zaar,↓Zaak,↓bxOp_un,↓Zaat,↓bxPut,↓Zabk,↓Zabi,↓Zacm,↓Zacn,↓Zacp,↓Zaba,↓Zaay,↓Zaaz,↓dstAt,↓Zabc,Zack,Zaab,Zabd,aPick_false,Zabt,sxGuardB_tf,sxGuardB_ff,Zabg,List.map_cons,List.map_nil,List.nil_append,List.append_nil,↓reduceIte,Nat.reduceEqDiff,Nat.reduceLT,and_self, *,argF,List.getD_cons_zero,List.getD_cons_succ])
end
def PostIJ (HB:Base) (b r:Nat) (k:Bool) (d:Array Int) (lo hi:Nat) (H H':Heap):Prop:=SaJ HB H' b r k (Sort.insertionSort ltI d lo hi) ∧ H.size ≤ H'.size

variable {S:AM.Sys} (hS:Only S 5) {HB:Base} (hLB:HB.low ≤ HB.size) {b r c:Nat} {k:Bool}
include hS hLB

set_option maxHeartbeats 2000000 in
theorem insJ_runs (d:Array Int) (lo hi:Nat) (H:Heap) (hd:SaJ HB H b r k d) (h1:lo ≤ hi) (h2:hi ≤ d.size) (hm:d.size ≤ 100000000) :
    ∃ u H',Runs Tryz.prog S (.fn 96) [.slice (some ⟨r,0,none⟩) d.size c,.int .i64 (lo:Int),.int .i64 (hi:Int)] H u H' ∧ PostIJ HB b r k d lo hi H H':=by
  suffices h:WCall Tryz.prog S (.fn 96) [.slice (some ⟨r,0,none⟩) d.size c,.int .i64 (lo:Int),.int .i64 (hi:Int)] H (fun u H' => PostIJ HB b r k d lo hi H H') by
    obtain ⟨u,H',hr,h⟩:=h; exact ⟨u,H',hr,h⟩
  have hmx:Go.maxLen = 9223372036854775807:=rfl;have hw0:IntKind.i64.wrap ((lo:Int) + 1) = ((lo + 1:Nat):Int):=wrap_succ (n:=lo + 1) (by omega) (by omega)
  refine Zaaw Tryz.func96 rfl (Nat.le_of_ble_eq_true rfl) (hS.no rfl _ _) ?_
  rw [Tryz.ntmps96,Tryz.results96]
  repeat' (first | simp only [↓Zabp,↓Zabr,↓Zaaf,↓Zabm,↓Zacj,↓Zaci,↓Zaco,↓Zaaq,↓Zaaj,↓Zaak,↓bxPut,↓Zabk,↓Zacp,↓Zaba,↓Zaay,Zack,Zaab,Zabd,↓reduceIte,Nat.reduceLT, *,argF,List.getD_cons_zero,List.getD_cons_succ])
  refine sxL_of (fun m ρ H1 => ∃ (i:Nat) (d1:Array Int),m = hi - i ∧ lo + 1 ≤ i ∧ Sort.insertionSort ltI d lo hi = Sort.insOuter ltI lo hi i d1 ∧ SaJ HB H1 b r k d1 ∧ d1.size = d.size ∧ H.size ≤ H1.size ∧
      ρ 0 = .slice (some ⟨r,0,none⟩) d.size c ∧ ρ 1 = .int .i64 (lo:Int) ∧ ρ 2 = .int .i64 (hi:Int) ∧ ρ 6 = .int .i64 (i:Int))
    ⟨lo + 1,d,rfl,Nat.le_refl _,rfl,hd,rfl,Nat.le_refl _,rfl,rfl,rfl,rfl⟩ ?_
  clear hd;rintro m ρ H1 ⟨i,d1,rfl,hi0,heq,hd,hsz,hHs,e0,e1,e2,e8⟩;rw [Sort.insOuter] at heq
  by_cases hlt:i < hi
  case neg =>
    have hlt':¬ (i:Int) < (hi:Int):=by omega
    rw [if_neg hlt] at heq;have hpost:PostIJ HB b r k d lo hi H H1:=by
      unfold PostIJ;rw [heq];exact ⟨hd,hHs⟩
    clear heq hlt
    repeat' (first | simp only [↓Zabs,↓Zabp,↓Zabr,↓Zaae,↓Zaaf,↓Zabm,↓Zabo,↓Zacj,↓Zaci,↓Zaco,↓Zaaq,↓Zaaj,↓Zaak,↓bxPut,↓Zabk,↓Zabj,↓Zaac,↓Zabf,↓Zabe,↓resQ_normal,↓Zacm,↓Zacp,↓Zaba,↓Zaay,Zack,Zaab,Zabd,Zacg,↓reduceIte,Nat.reduceEqDiff,Nat.reduceLT,dec_F, *])
  have hlt':(i:Int) < (hi:Int):=by omega
  rw [if_pos hlt] at heq;have hwi:=wrap_succ hlt (by omega:hi ≤ Go.maxLen)
  repeat' (first | simp only [↓Zabs,↓Zabp,↓Zabr,↓Zaae,↓Zaaf,↓Zabm,↓Zabo,↓Zacj,↓Zaci,↓Zaco,↓Zaaq,↓Zaaj,↓Zaak,↓bxPut,↓Zabk,↓Zabj,↓Zaac,↓Zabf,↓Zabe,↓resQ_normal,↓Zacm,↓Zacp,↓Zaba,↓Zaay,Zack,Zaab,Zabd,Zach,↓reduceIte,Nat.reduceEqDiff,Nat.reduceLT,dec_T, *])
  refine sxL_of (fun m ρ H2 => ∃ (j:Nat) (d2:Array Int),m = j ∧ j ≤ i ∧ Sort.insInner ltI lo i d1 = Sort.insInner ltI lo j d2 ∧ SaJ HB H2 b r k d2 ∧ d2.size = d.size ∧ H.size ≤ H2.size ∧
      ρ 0 = .slice (some ⟨r,0,none⟩) d.size c ∧ ρ 1 = .int .i64 (lo:Int) ∧ ρ 2 = .int .i64 (hi:Int) ∧ ρ 6 = .int .i64 (i:Int) ∧ ρ 7 = .int .i64 (j:Int))
    ⟨i,d1,rfl,Nat.le_refl _,rfl,hd,hsz,hHs,e0,e1,e2,e8,rfl⟩ ?_
  clear hd e0 e1 e2 e8 hHs hsz ρ;rintro m ρ H2 ⟨j,d2,rfl,hj,heq2,hd,hsz,hHs,e0,e1,e2,e8,e9⟩;have hL2:=hd.keep.low hLB;cases m with
  | zero =>
    have hn:¬ (lo:Int) < ((0:Nat):Int):=by omega
    have hin:Sort.insInner ltI lo 0 d2 = d2:=rfl;rw [heq2,hin] at heq;clear heq2 hin
    repeat' (first | simp only [↓Zabs,↓Zabn,↓Zabp,↓Zabr,↓Zaae,↓Zabm,↓Zabo,↓Zacj,↓Zaci,↓Zacd,↓Zaag,↓Zacb,↓sxDL_pick,↓Zaca,↓Zabw,↓Zabz,↓sxD_same,↓Zaco,↓Zaav,↓Zaaq,↓Zaaj,↓Zaar,↓Zaap,↓Zaas,↓Zaak,↓Zaan,↓Zaat,↓Zacl,↓bxPut,↓Zabk,↓Zabj,↓Zaad,↓Zaac,↓Zabf,↓Zabe,↓resQ_normal,↓Zacm,↓Zacp,↓Zaba,↓Zaay,↓Zaaz,↓dstAt,↓Zabc,Zack,Zaab,Zabd,aPick_false,Zabt,sxGuardB_tf,Zacg,List.nil_append,↓reduceIte,Nat.reduceEqDiff,Nat.reduceLT,dec_F,true_and, *] | (with_reducible first | refine Zabv (by assumption) (by decide +kernel) ?_ | refine Zabu (by decide +kernel) ?_ | refine Zacc (by decide +kernel) ?_ | refine Zabx ?_))
    exact ⟨hi - (i + 1),by omega,i + 1,d2,rfl,by omega,rfl,hd,hsz,rfl⟩
  | succ j =>
  have hin:Sort.insInner ltI lo (j + 1) d2 = if j + 1 > lo && ltI d2[j + 1]! d2[j]! then Sort.insInner ltI lo j (Sort.swp d2 (j + 1) j) else d2:=rfl
  have hj1:j + 1 < d2.size:=by omega
  have hj0:j < d2.size:=by omega
  have hwj:IntKind.i64.wrap (((j + 1:Nat):Int) - 1) = (j:Int):=by rw [IntWalk.i64_in _ (by omega)]; omega
  by_cases hjl:lo < j + 1
  case neg =>
    have hn:¬ (lo:Int) < ((j + 1:Nat):Int):=by omega
    rw [if_neg (by simp; omega)] at hin
    rw [heq2,hin] at heq;clear heq2 hin
    repeat' (first | simp only [↓Zabs,↓Zabn,↓Zabp,↓Zabr,↓Zaae,↓Zabm,↓Zabo,↓Zacj,↓Zaci,↓Zacd,↓Zaag,↓Zacb,↓sxDL_pick,↓Zaca,↓Zabw,↓Zabz,↓sxD_same,↓Zaco,↓Zaav,↓Zaaq,↓Zaaj,↓Zaar,↓Zaap,↓Zaas,↓Zaak,↓Zaan,↓Zaat,↓Zacl,↓bxPut,↓Zabk,↓Zabj,↓Zaad,↓Zaac,↓Zabf,↓Zabe,↓resQ_normal,↓Zacm,↓Zacp,↓Zaba,↓Zaay,↓Zaaz,↓dstAt,↓Zabc,Zack,Zaab,Zabd,aPick_false,Zabt,sxGuardB_tf,Zacg,List.nil_append,↓reduceIte,Nat.reduceEqDiff,Nat.reduceLT,dec_F,true_and, *] | (with_reducible first | refine Zabv (by assumption) (by decide +kernel) ?_ | refine Zabu (by decide +kernel) ?_ | refine Zacc (by decide +kernel) ?_ | refine Zabx ?_))
    exact ⟨hi - (i + 1),by omega,i + 1,d2,rfl,by omega,rfl,hd,hsz,rfl⟩
  have hjl':(lo:Int) < ((j + 1:Nat):Int):=by omega
  have hix1:aIndexAt Tryz.prog 22 (.slice (some ⟨r,0,none⟩) d.size c) (.int .i64 ((j + 1:Nat):Int)) = _:=ixAtJ (by omega)
  have hix0:aIndexAt Tryz.prog 22 (.slice (some ⟨r,0,none⟩) d.size c) (.int .i64 (j:Int)) = _:=ixAtJ (by omega)
  have hl1:=ldAtJ hd hj1;have hl0:=ldAtJ hd hj0;have f5:∀ (K:Value → Heap → Prop) (bl:Blk K),sxCallB Tryz.prog S (.fn 102) [celInt.val d2[j + 1]!,celInt.val d2[j]!] (H2.relow H2.size) K bl = K (.bool (decide (d2[j + 1]! < d2[j]!))) (H2.relow H2.size):=(less_runs hS d2[j + 1]! d2[j]! (H2.relow H2.size)).bx
  by_cases hzl:d2[j + 1]! < d2[j]!
  · have hz':decide (d2[j + 1]! < d2[j]!) = true:=decide_eq_true hzl;rw [if_pos (by unfold ltI; simp; exact ⟨by omega,hzl⟩)] at hin
    rw [hin] at heq2;have hsw:=swDJ hLB hd hj1 hj0;obtain ⟨H6,H7,H8,H9,hs6,he6,hs7,he7,hd7,hz7,hL9,hL7⟩:=hsw;have hsz7:=(swp_szJ d2 (j + 1) j).trans hsz;clear hin hd hzl heq
    repeat' (first | simp only [↓Zabs,↓Zabn,↓Zabp,↓Zabr,↓Zaae,↓Zabm,↓Zabo,↓Zacj,↓Zaci,↓Zacd,↓Zaag,↓Zacb,↓sxDL_pick,↓Zaca,↓Zabw,↓Zabz,↓sxD_same,↓Zaco,↓Zaav,↓Zaaq,↓Zaaj,↓Zaar,↓Zaap,↓Zaas,↓Zaak,↓Zaan,↓Zaat,↓Zacl,↓bxPut,↓Zabk,↓Zabj,↓Zaad,↓Zaac,↓Zabf,↓Zabe,↓resQ_normal,↓Zacm,↓Zacp,↓Zaba,↓Zaay,↓Zaaz,↓dstAt,↓Zabc,Zack,Zaab,Zabd,aPick_true,Zabt,sxGuardB_tt,Zach,List.map_cons,List.map_nil,List.nil_append,List.append_nil,↓reduceIte,Nat.reduceEqDiff,Nat.reduceLT,dec_T,true_and,Zaaa, *] | (with_reducible first | refine Zabv (by assumption) (by decide +kernel) ?_ | refine Zabu (by decide +kernel) ?_ | refine Zacc (by decide +kernel) ?_ | refine Zabx ?_))
    have hfin:Sort.insInner ltI lo j (Sort.swp d2 (j + 1) j) = Sort.insInner ltI lo j (Sort.swp d2 (j + 1) j):=Eq.refl _;exact ⟨j,Nat.lt_succ_self j,j,Sort.swp d2 (j + 1) j,rfl,Nat.le_of_succ_le hj,hfin,hd7,hsz7,rfl⟩
  · have hz':decide (d2[j + 1]! < d2[j]!) = false:=decide_eq_false hzl;rw [if_neg (by unfold ltI; simp; exact fun _ => Int.not_lt.1 hzl)] at hin
    rw [heq2,hin] at heq;clear heq2 hin hzl
    repeat' (first | simp only [↓Zabs,↓Zabn,↓Zabp,↓Zabr,↓Zaae,↓Zabm,↓Zabo,↓Zacj,↓Zaci,↓Zacd,↓Zaag,↓Zacb,↓sxDL_pick,↓Zaca,↓Zabw,↓Zabz,↓sxD_same,↓Zaco,↓Zaav,↓Zaaq,↓Zaaj,↓Zaar,↓Zaap,↓Zaas,↓Zaak,↓Zaan,↓Zaat,↓Zacl,↓bxPut,↓Zabk,↓Zabj,↓Zaad,↓Zaac,↓Zabf,↓Zabe,↓resQ_normal,↓Zacm,↓Zacp,↓Zaba,↓Zaay,↓Zaaz,↓dstAt,↓Zabc,Zack,Zaab,Zabd,aPick_true,Zabt,sxGuardB_tt,Zacg,List.map_cons,List.map_nil,List.nil_append,List.append_nil,↓reduceIte,Nat.reduceEqDiff,Nat.reduceLT,dec_T,true_and,Zaaa, *] | (with_reducible first | refine Zabv (by assumption) (by decide +kernel) ?_ | refine Zabu (by decide +kernel) ?_ | refine Zacc (by decide +kernel) ?_ | refine Zabx ?_))
    exact ⟨hi - (i + 1),by omega,i + 1,d2,rfl,by omega,rfl,hd,hsz,rfl⟩

omit hS hLB in
theorem swoI:Sort.SWO ltI where
  irrefl:=fun x => by unfold ltI; simp
  trans:=fun x y z h1 h2 => by unfold ltI at *; simp at *; omega
  ntrans:=fun x y z h1 h2 => by unfold ltI at *; simp at *; omega
theorem pdqJ_runs (d:Array Int) (L:Int) (H:Heap) (hd:SaJ HB H b r k d) (hm:d.size ≤ 12) :
    ∃ u H',Runs Tryz.prog S (.fn 81) [.slice (some ⟨r,0,none⟩) d.size c,.int .i64 0,.int .i64 (d.size:Int),.int .i64 L] H u H' ∧ PostIJ HB b r k d 0 d.size H H':=by
  suffices h:WCall Tryz.prog S (.fn 81) [.slice (some ⟨r,0,none⟩) d.size c,.int .i64 0,.int .i64 (d.size:Int),.int .i64 L] H (fun u H' => PostIJ HB b r k d 0 d.size H H') by
    obtain ⟨u,H',hr,h⟩:=h; exact ⟨u,H',hr,h⟩
  obtain ⟨u,H2,hR,hp⟩:=insJ_runs hS hLB (c:=c) d 0 d.size H hd (Nat.zero_le _) (Nat.le_refl _) (by omega)
  have f1:∀ (K:Value → Heap → Prop) (bl:Blk K),sxCallB Tryz.prog S (.fn 96) [.slice (some ⟨r,0,none⟩) d.size c,.int .i64 0,.int .i64 (d.size:Int)] H K bl = K u H2:=hR.bx;have hw:IntKind.i64.wrap ((d.size:Int) - 0) = (d.size:Int):=by rw [Int.sub_zero]; exact IntWalk.i64_in _ (by omega)
  have h12:(d.size:Int) ≤ 12:=by omega
  have hmx:Go.maxLen = 9223372036854775807:=rfl;clear hR hd;refine Zaaw Tryz.func81 rfl (Nat.le_of_ble_eq_true rfl) (hS.no rfl _ _) ?_
  rw [Tryz.ntmps81,Tryz.results81]
  repeat' (first | simp only [↓Zabp,↓Zabr,↓Zaaf,↓Zabm,↓Zacj,↓Zaci,↓Zaco,↓Zaaj,↓bxPut,↓Zabk,↓Zaay,Nat.reduceLT, *])
  refine sxL_of (fun m ρ H1 => m = 0 ∧ H1 = H ∧ ρ 0 = .slice (some ⟨r,0,none⟩) d.size c ∧ ρ 1 = .int .i64 0 ∧ ρ 2 = .int .i64 (d.size:Int)) ⟨rfl,rfl,rfl,rfl,rfl⟩ ?_
  rintro m ρ H1 ⟨rfl,rfl,e0,e1,e2⟩
  repeat' (first | simp only [↓Zabs,↓Zabn,↓Zabp,↓Zabr,↓Zaae,↓Zabm,↓Zabo,↓Zabq,↓Zacj,↓Zaci,↓Zacd,↓Zaag,↓Zacb,↓sxDL_pick,↓Zaca,↓Zabw,↓sxDL_unOp,↓Zabz,↓Zaco,↓Zaav,↓Zaaq,↓Zaaj,↓Zaar,↓Zaap,↓Zaak,↓bxOp_un,↓Zaan,↓bxOp_extract,↓Zaat,↓bxPut,↓Zabk,↓Zabj,↓Zabl,↓Zaad,↓blockQ_ret,↓Zaac,↓Zabf,↓Zabe,↓loopQ_ret,↓resQ_normal,↓Zabi,↓Zacm,↓Zacp,↓Zaba,↓Zaay,↓Zaaz,↓dstAt,↓Zabc,Zack,Zaab,Zabd,Zabt,Zach,List.map_cons,List.map_nil,List.nil_append,List.append_nil,↓reduceIte,Nat.reduceEqDiff,Nat.reduceLT,dec_T, *] | (with_reducible first | refine Zabv (by assumption) (by decide +kernel) ?_ | refine Zabu (by decide +kernel) ?_ | refine Zacc (by decide +kernel) ?_ | refine Zabx ?_))
end Go.Proofs.YtpeoleimmabceaaGreat
