/- Insertion sort. -/
import Derived.Test.YtmpbapffjapghaaS1P
set_option linter.unusedVariables false
set_option linter.unusedSimpArgs false
set_option linter.unusedSectionVars false

namespace Go.Proofs.Ytmpbapffjapghaa
open Go Go.AM
set_option maxRecDepth 10000
def PostIP (HB:Base) (b r:Nat) (k:Bool) (lt:(Int × Int) → (Int × Int) → Bool) (d:Array (Int × Int)) (lo hi:Nat) (H H':Heap):Prop:=SaP HB H' b r k (Sort.insertionSort lt d lo hi) ∧ H.size ≤ H'.size

variable {S:AM.Sys} (hS:Only S 5) {g:FuncId} {pre cs:List Value} {HB:Base} {V:(Int × Int) → Prop} {lt:(Int × Int) → (Int × Int) → Bool} (hc:CmpP S g pre cs HB V lt) (hLB:HB.low ≤ HB.size) {b r c:Nat} {k:Bool}
include hS hc hLB

set_option maxHeartbeats 2000000 in
theorem insP_runs (d:Array (Int × Int)) (lo hi:Nat) (H:Heap) (hd:SaP HB H b r k d) (hV:AllP V d) (h1:lo ≤ hi) (h2:hi ≤ d.size) (hm:d.size ≤ 100000000) :
    ∃ u H',Runs Try.prog S (.fn 57) [.slice (some ⟨r,0,none⟩) d.size c,.int .i64 (lo:Int),.int .i64 (hi:Int),.func (.func g) ⟨pre⟩ ⟨cs⟩] H u H' ∧ PostIP HB b r k lt d lo hi H H':=by
  suffices h:WCall Try.prog S (.fn 57) [.slice (some ⟨r,0,none⟩) d.size c,.int .i64 (lo:Int),.int .i64 (hi:Int),.func (.func g) ⟨pre⟩ ⟨cs⟩] H (fun u H' => PostIP HB b r k lt d lo hi H H') by
    obtain ⟨u,H',hr,h⟩:=h; exact ⟨u,H',hr,h⟩
  have hmx:Go.maxLen = 9223372036854775807:=rfl;have hw0:IntKind.i64.wrap ((lo:Int) + 1) = ((lo + 1:Nat):Int):=wrap_succ (n:=lo + 1) (by omega) (by omega)
  refine call_of Try.func57 rfl (Nat.le_of_ble_eq_true rfl) (hS.no rfl _ _) ?_
  rw [Try.ntmps57,Try.results57]
  repeat' simp only [↓Zadi,↓Zadk,↓Zaat,↓Zade,↓Zafk,↓Zafj,↓Zafq,↓Zabt,↓Zaay,↓Zaaz,↓bxPut,↓Zadb,↓Zafs,↓Zacj,↓Zacg,Zafm,Zaak,Zacm,↓reduceIte,Nat.reduceLT, *,argF,List.getD_cons_zero,List.getD_cons_succ]
  refine sxL_of (fun m ρ H1 => ∃ (i:Nat) (d1:Array (Int × Int)),m = hi - i ∧ lo + 1 ≤ i ∧ Sort.insertionSort lt d lo hi = Sort.insOuter lt lo hi i d1 ∧ SaP HB H1 b r k d1 ∧ AllP V d1 ∧ d1.size = d.size ∧ H.size ≤ H1.size ∧
      ρ 0 = .slice (some ⟨r,0,none⟩) d.size c ∧ ρ 1 = .int .i64 (lo:Int) ∧ ρ 2 = .int .i64 (hi:Int) ∧ ρ 3 = .func (.func g) ⟨pre⟩ ⟨cs⟩ ∧ ρ 8 = .int .i64 (i:Int))
    ⟨lo + 1,d,rfl,Nat.le_refl _,rfl,hd,hV,rfl,Nat.le_refl _,rfl,rfl,rfl,rfl,rfl⟩ ?_
  clear hd hV;rintro m ρ H1 ⟨i,d1,rfl,hi0,heq,hd,hV,hsz,hHs,e0,e1,e2,e3,e8⟩;rw [Sort.insOuter] at heq
  by_cases hlt:i < hi
  case neg =>
    have hlt':¬ (i:Int) < (hi:Int):=by omega
    rw [if_neg hlt] at heq;have hpost:PostIP HB b r k lt d lo hi H H1:=by
      unfold PostIP;rw [heq];exact ⟨hd,hHs⟩
    clear heq hlt
    repeat' simp only [↓Zadl,↓Zadi,↓Zadk,↓Zaas,↓Zaat,↓Zade,↓Zadg,↓Zafk,↓Zafj,↓Zafq,↓Zabt,↓Zaay,↓Zaaz,↓bxPut,↓Zadb,↓Zacz,↓Zaao,↓Zacp,↓Zacn,↓Zacx,↓Zafo,↓Zafs,↓Zacj,↓Zacg,Zafm,Zaak,Zacm,Zafg,↓reduceIte,Nat.reduceEqDiff,Nat.reduceLT,dec_F, *]
  have hlt':(i:Int) < (hi:Int):=by omega
  rw [if_pos hlt] at heq;have hwi:=wrap_succ hlt (by omega:hi ≤ Go.maxLen)
  repeat' simp only [↓Zadl,↓Zadi,↓Zadk,↓Zaas,↓Zaat,↓Zade,↓Zadg,↓Zafk,↓Zafj,↓Zafq,↓Zabt,↓Zaay,↓Zaaz,↓bxPut,↓Zadb,↓Zacz,↓Zaao,↓Zacp,↓Zacn,↓Zacx,↓Zafo,↓Zafs,↓Zacj,↓Zacg,Zafm,Zaak,Zacm,Zafi,↓reduceIte,Nat.reduceEqDiff,Nat.reduceLT,dec_T, *]
  refine sxL_of (fun m ρ H2 => ∃ (j:Nat) (d2:Array (Int × Int)),m = j ∧ j ≤ i ∧ Sort.insInner lt lo i d1 = Sort.insInner lt lo j d2 ∧ SaP HB H2 b r k d2 ∧ AllP V d2 ∧ d2.size = d.size ∧ H.size ≤ H2.size ∧
      ρ 0 = .slice (some ⟨r,0,none⟩) d.size c ∧ ρ 1 = .int .i64 (lo:Int) ∧ ρ 2 = .int .i64 (hi:Int) ∧ ρ 3 = .func (.func g) ⟨pre⟩ ⟨cs⟩ ∧ ρ 8 = .int .i64 (i:Int) ∧ ρ 9 = .int .i64 (j:Int))
    ⟨i,d1,rfl,Nat.le_refl _,rfl,hd,hV,hsz,hHs,e0,e1,e2,e3,e8,rfl⟩ ?_
  clear hd hV e0 e1 e2 e3 e8 hHs hsz ρ;rintro m ρ H2 ⟨j,d2,rfl,hj,heq2,hd,hV,hsz,hHs,e0,e1,e2,e3,e8,e9⟩;have hL2:=hd.keep.low hLB;cases m with
  | zero =>
    have hn:¬ (lo:Int) < ((0:Nat):Int):=by omega
    have hin:Sort.insInner lt lo 0 d2 = d2:=rfl;rw [heq2,hin] at heq;clear heq2 hin
    repeat' (first | simp only [↓Zadl,↓Zadf,↓Zadi,↓Zadk,↓Zaas,↓Zade,↓Zadg,↓Zafk,↓Zafj,↓Zaey,↓Zaau,↓Zaeo,↓Zaer,↓Zaeg,↓Zads,↓Zaee,↓Zaex,↓Zafq,↓Zacb,↓Zabt,↓Zaay,↓Zabv,↓Zabn,↓Zabx,↓Zaaz,↓Zabl,↓Zabz,↓Zafn,↓bxPut,↓Zadb,↓Zacz,↓Zaaq,↓Zaao,↓Zacp,↓Zacn,↓Zacx,↓Zafo,↓Zafs,↓Zacj,↓Zacg,↓dstAt,↓Zacl,Zafm,Zaak,Zacm,Zaaf,Zafc,Zafg,↓reduceIte,Nat.reduceEqDiff,Nat.reduceLT,dec_F,true_and, *] | (with_reducible first | refine Zadr (by assumption) (by decide +kernel) ?_ | refine Zadq (by decide +kernel) ?_ | refine Zaew (by decide +kernel) ?_ | refine Zadw ?_))
    exact ⟨hi - (i + 1),by omega,i + 1,d2,rfl,by omega,rfl,hd,hV,hsz,rfl⟩
  | succ j =>
  have hin:Sort.insInner lt lo (j + 1) d2 = if j + 1 > lo && lt d2[j + 1]! d2[j]! then Sort.insInner lt lo j (Sort.swp d2 (j + 1) j) else d2:=rfl
  have hj1:j + 1 < d2.size:=by omega
  have hj0:j < d2.size:=by omega
  have hwj:IntKind.i64.wrap (((j + 1:Nat):Int) - 1) = (j:Int):=by rw [IntWalk.i64_in _ (by omega)]; omega
  by_cases hjl:lo < j + 1
  case neg =>
    have hn:¬ (lo:Int) < ((j + 1:Nat):Int):=by omega
    rw [if_neg (by simp; omega)] at hin
    rw [heq2,hin] at heq;clear heq2 hin
    repeat' (first | simp only [↓Zadl,↓Zadf,↓Zadi,↓Zadk,↓Zaas,↓Zade,↓Zadg,↓Zafk,↓Zafj,↓Zaey,↓Zaau,↓Zaeo,↓Zaer,↓Zaeg,↓Zads,↓Zaee,↓Zaex,↓Zafq,↓Zacb,↓Zabt,↓Zaay,↓Zabv,↓Zabn,↓Zabx,↓Zaaz,↓Zabl,↓Zabz,↓Zafn,↓bxPut,↓Zadb,↓Zacz,↓Zaaq,↓Zaao,↓Zacp,↓Zacn,↓Zacx,↓Zafo,↓Zafs,↓Zacj,↓Zacg,↓dstAt,↓Zacl,Zafm,Zaak,Zacm,Zaaf,Zafc,Zafg,↓reduceIte,Nat.reduceEqDiff,Nat.reduceLT,dec_F,true_and, *] | (with_reducible first | refine Zadr (by assumption) (by decide +kernel) ?_ | refine Zadq (by decide +kernel) ?_ | refine Zaew (by decide +kernel) ?_ | refine Zadw ?_))
    exact ⟨hi - (i + 1),by omega,i + 1,d2,rfl,by omega,rfl,hd,hV,hsz,rfl⟩
  have hjl':(lo:Int) < ((j + 1:Nat):Int):=by omega
  have hix1:Zaad Try.prog 40 (.slice (some ⟨r,0,none⟩) d.size c) (.int .i64 ((j + 1:Nat):Int)) = _:=ixAtP (by omega)
  have hix0:Zaad Try.prog 40 (.slice (some ⟨r,0,none⟩) d.size c) (.int .i64 (j:Int)) = _:=ixAtP (by omega)
  have hl1:=ldAtP hd hj1;have hl0:=ldAtP hd hj0;have hcc:=hc (H2.relow H2.size) d2[j + 1]! d2[j]! (hd.keep.trans (Keep.relowS H2)) (hV _ hj1) (hV _ hj0);obtain ⟨z,H3,hK3,hz,hR3⟩:=hcc;have hdr:=drawn (hd.keep.low hLB) ⟨H3,hK3,hR3⟩;obtain ⟨H4,H5,hK5,hL5,f5,hd5⟩:=hdr;have hd':=hd.kept hK5
  by_cases hzl:lt d2[j + 1]! d2[j]! = true
  · have hz':decide (z < 0) = true:=decide_eq_true (hz.2 hzl);rw [if_pos (by simp; exact ⟨by omega,hzl⟩)] at hin
    rw [hin] at heq2;have hsw:=swDP hLB hd' hj1 hj0;obtain ⟨H6,H7,H8,H9,hs6,he6,hs7,he7,hd7,hz7,hL9,hL7⟩:=hsw;have hK5s:=hK5.size;have hl15:=ldAtP hd' hj1;have hl05:=ldAtP hd' hj0;have hV7:=hV.swp hj1 hj0;have hsz7:=(swp_szP d2 (j + 1) j).trans hsz;clear hin hz hR3 hd hV hd' hzl hK3 heq
    repeat' (first | simp only [↓Zadl,↓Zadf,↓Zadi,↓Zadk,↓Zaas,↓Zade,↓Zadg,↓Zafk,↓Zafj,↓Zaey,↓Zaau,↓Zaeo,↓Zaer,↓Zaeg,↓Zads,↓Zaee,↓Zaex,↓Zafq,↓Zacb,↓Zabt,↓Zaay,↓Zabv,↓Zabn,↓Zabx,↓Zaaz,↓Zabl,↓Zabz,↓Zafn,↓bxPut,↓Zadb,↓Zacz,↓Zaaq,↓Zaao,↓Zacp,↓Zacn,↓Zacx,↓Zafo,↓Zafs,↓Zacj,↓Zacg,↓dstAt,↓Zacl,Zafm,Zaak,Zacm,Zaag,Zadm,Zafe,Zafi,List.map,↓reduceIte,Nat.reduceEqDiff,Nat.reduceLT,dec_T,true_and,Zaae, *] | (with_reducible first | refine Zadr (by assumption) (by decide +kernel) ?_ | refine Zadq (by decide +kernel) ?_ | refine Zaew (by decide +kernel) ?_ | refine Zadw ?_))
    have hfin:Sort.insInner lt lo j (Sort.swp d2 (j + 1) j) = Sort.insInner lt lo j (Sort.swp d2 (j + 1) j):=Eq.refl _;exact ⟨j,Nat.lt_succ_self j,j,Sort.swp d2 (j + 1) j,rfl,Nat.le_of_succ_le hj,hfin,hd7,hV7,hsz7,Nat.le_trans hHs hK5s,rfl⟩
  · have hz':decide (z < 0) = false:=decide_eq_false fun h => hzl (hz.1 h)
    rw [if_neg (by simp; intro _; simpa using hzl)] at hin
    rw [heq2,hin] at heq;have hK5s:=hK5.size;have hHs':H.size ≤ H5.size:=by omega
    clear heq2 hin hz hR3 hd hzl hK3
    repeat' (first | simp only [↓Zadl,↓Zadf,↓Zadi,↓Zadk,↓Zaas,↓Zade,↓Zadg,↓Zafk,↓Zafj,↓Zaey,↓Zaau,↓Zaeo,↓Zaer,↓Zaeg,↓Zads,↓Zaee,↓Zaex,↓Zafq,↓Zacb,↓Zabt,↓Zaay,↓Zabv,↓Zabn,↓Zabx,↓Zaaz,↓Zabl,↓Zabz,↓Zafn,↓bxPut,↓Zadb,↓Zacz,↓Zaaq,↓Zaao,↓Zacp,↓Zacn,↓Zacx,↓Zafo,↓Zafs,↓Zacj,↓Zacg,↓dstAt,↓Zacl,Zafm,Zaak,Zacm,Zaag,Zadm,Zafe,Zafg,List.map,↓reduceIte,Nat.reduceEqDiff,Nat.reduceLT,dec_T,true_and,Zaae, *] | (with_reducible first | refine Zadr (by assumption) (by decide +kernel) ?_ | refine Zadq (by decide +kernel) ?_ | refine Zaew (by decide +kernel) ?_ | refine Zadw ?_))
    exact ⟨hi - (i + 1),by omega,i + 1,d2,rfl,by omega,rfl,hd',hV,hsz,rfl⟩
end Go.Proofs.Ytmpbapffjapghaa
