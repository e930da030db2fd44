/- A few steps of insertion. -/
import Derived.Test.YteechkbnccpicaaS2P
set_option linter.unusedVariables false
set_option linter.unusedSimpArgs false
set_option linter.unusedSectionVars false

namespace Go.Proofs.Yteechkbnccpicaa
open Go Go.AM
set_option maxRecDepth 10000
def PostNP (HB:Base) (b r:Nat) (k:Bool) (D:Array (Int × Int) × Bool) (H:Heap) (u:Value) (H':Heap):Prop:=u = .bool D.2 ∧ SaP HB H' b r k D.1 ∧ H.size ≤ H'.size
variable {S:AM.Sys} (hS:Only S 11) {g:FuncId} {pre cs:List Value} {HB:Base} {V:(Int × Int) → Prop} {lt:(Int × Int) → (Int × Int) → Bool} (hc:CmpP S g pre cs HB V lt) (hLB:HB.low ≤ HB.size) {b r c:Nat} {k:Bool}
include hS hc hLB

set_option maxHeartbeats 4000000 in
theorem pinsP_runs (d:Array (Int × Int)) (lo hi:Nat) (H:Heap) (hd:SaP HB H b r k d) (hV:AllP V d) (h1:lo < hi) (h2:hi ≤ d.size) (hm:d.size ≤ 100000000) :
    ∃ u H',Runs Try.prog S (.fn 101) [.slice (some ⟨r,0,none⟩) d.size c,.int .i64 (lo:Int),.int .i64 (hi:Int),.func (.func g) ⟨pre⟩ ⟨cs⟩] H u H' ∧ PostNP HB b r k (Sort.partialInsertionSort lt d lo hi) H u H':=by
  suffices h:WCall Try.prog S (.fn 101) [.slice (some ⟨r,0,none⟩) d.size c,.int .i64 (lo:Int),.int .i64 (hi:Int),.func (.func g) ⟨pre⟩ ⟨cs⟩] H (fun u H' => PostNP HB b r k (Sort.partialInsertionSort lt d lo hi) H u H') by
    obtain ⟨u,H',hr,h⟩:=h; exact ⟨u,H',hr,h⟩
  have hmx:Go.maxLen = 9223372036854775807:=rfl;refine Zaba Try.func101 rfl (Nat.le_of_ble_eq_true rfl) (hS.no rfl _ _) ?_
  rw [Try.ntmps101,Try.results101];have hgo:∃ D,D = Sort.partialInsertionSort lt d lo hi:=⟨_,rfl⟩;obtain ⟨D,hD⟩:=hgo;rw [← hD];unfold Sort.partialInsertionSort at hD;have hwi:IntKind.i64.wrap ((lo:Int) + 1) = ((lo + 1:Nat):Int):=by rw [IntWalk.i64_in _ (by omega)]; omega
  have hwl:IntKind.i64.wrap ((hi:Int) - (lo:Int)) = ((hi - lo:Nat):Int):=by rw [IntWalk.i64_in _ (by omega)]; omega
  repeat' simp only [↓Zabx,↓Zabz,↓Zaaj,↓Zabu,↓Zaby,↓Zacw,↓Zacv,↓Zadb,↓Zaau,↓Zaam,↓Zaan,↓bxPut,↓Zabs,↓Zabq,↓Zacz,↓Zada,↓Zadc,↓Zabg,↓Zabe,Zacx,Zaae,Zabi,Zabm,↓reduceIte,Nat.reduceEqDiff,Nat.reduceLT, *,argF,List.getD_cons_zero,List.getD_cons_succ]
  refine sxL_of (fun s ρ H1 => s ≤ 5 ∧ ∃ (i:Nat) (d1:Array (Int × Int)),D = Sort.partialIns lt lo hi s i d1 ∧ lo + 1 ≤ i ∧ i ≤ hi ∧ d1.size = d.size ∧ AllP V d1 ∧ SaP HB H1 b r k d1 ∧ H.size ≤ H1.size ∧
      ρ 0 = .slice (some ⟨r,0,none⟩) d.size c ∧ ρ 1 = .int .i64 (lo:Int) ∧ ρ 2 = .int .i64 (hi:Int) ∧ ρ 3 = .func (.func g) ⟨pre⟩ ⟨cs⟩ ∧ ρ 9 = .int .i64 (i:Int) ∧ ρ 10 = .int .i64 (5 - (s:Int)))
    (n:=5) ⟨Nat.le_refl _,lo + 1,d,hD,Nat.le_refl _,by omega,rfl,hV,hd,Nat.le_refl _,rfl,rfl,rfl,rfl,rfl,rfl⟩ ?_
  clear hd hV hD;rintro s ρ H1 ⟨hs5,i,d1,hD,hi1,hi2,hsz,hV,hd,hHs,e0,e1,e2,e3,e9,e10⟩;cases s with
  | zero =>
    have hn:¬ (5 - ((0:Nat):Int)) < 5:=by decide
    replace hD:D = (d1,false):=hD;have hpost:PostNP HB b r k D H (.bool false) H1:=by rw [hD]; exact ⟨rfl,hd,hHs⟩
    clear hD
    repeat' (first | simp only [↓Zaca,↓Zabv,↓Zabx,↓Zabz,↓Zaai,↓Zaaj,↓Zabu,↓Zabw,↓Zaby,↓Zacw,↓Zacv,↓Zaco,↓Zaak,↓Zacj,↓Zaci,↓Zace,↓Zach,↓Zadb,↓Zaau,↓Zaam,↓Zaat,↓Zaaw,↓Zaan,↓Zaar,↓Zacy,↓bxPut,↓Zabs,↓Zabr,↓Zabt,↓Zaag,↓Zaah,↓Zaaf,↓Zabk,↓Zabj,↓Zabl,↓Zabq,↓Zacz,↓Zada,↓Zadc,↓Zabg,↓Zabe,Zacx,Zaae,Zabi,Zact,Zabm,↓reduceIte,Nat.reduceLT,dec_F, *] | (with_reducible first | refine Zacd (by assumption) (by decide +kernel) ?_ | refine Zacc (by decide +kernel) ?_ | refine Zacm (by decide +kernel) ?_ | refine Zacf ?_))
  | succ s =>
  have hp5:(5 - ((s + 1:Nat):Int)) < 5:=by omega
  have hw5:IntKind.i64.wrap (5 - ((s + 1:Nat):Int) + 1) = 5 - (s:Int):=by rw [IntWalk.i64_in _ (by omega)]; omega
  rw [Sort.partialIns_succ] at hD
  repeat' (first | simp only [↓Zaca,↓Zabv,↓Zabx,↓Zabz,↓Zaai,↓Zaaj,↓Zabu,↓Zabw,↓Zaby,↓Zacw,↓Zacv,↓Zaco,↓Zaak,↓Zacj,↓Zaci,↓Zace,↓Zach,↓Zadb,↓Zaau,↓Zaam,↓Zaat,↓Zaaw,↓Zaan,↓Zaar,↓Zacy,↓bxPut,↓Zabs,↓Zabr,↓Zabt,↓Zaag,↓Zaah,↓Zaaf,↓Zabk,↓Zabj,↓Zabl,↓Zabq,↓Zacz,↓Zada,↓Zadc,↓Zabg,↓Zabe,Zacx,Zaae,Zabi,Zacu,Zabm,↓reduceIte,Nat.reduceLT,dec_T, *] | (with_reducible first | refine Zacd (by assumption) (by decide +kernel) ?_ | refine Zacc (by decide +kernel) ?_ | refine Zacm (by decide +kernel) ?_ | refine Zacf ?_))
  refine sxL_cut 2 (fun ρ H2 => ∃ i2,Sort.scanSorted lt d1 hi i = i2 ∧ i ≤ i2 ∧ i2 ≤ hi ∧ SaP HB H2 b r k d1 ∧ H.size ≤ H2.size ∧
      ρ 0 = .slice (some ⟨r,0,none⟩) d.size c ∧ ρ 1 = .int .i64 (lo:Int) ∧ ρ 2 = .int .i64 (hi:Int) ∧ ρ 3 = .func (.func g) ⟨pre⟩ ⟨cs⟩ ∧ ρ 9 = .int .i64 (i2:Int) ∧ ρ 10 = .int .i64 (5 - ((s + 1:Nat):Int)))
    (fun m ρ H2 => ∃ i3,m = hi - i3 ∧ Sort.scanSorted lt d1 hi i = Sort.scanSorted lt d1 hi i3 ∧ i ≤ i3 ∧ i3 ≤ hi ∧ SaP HB H2 b r k d1 ∧ H.size ≤ H2.size ∧
      ρ 0 = .slice (some ⟨r,0,none⟩) d.size c ∧ ρ 1 = .int .i64 (lo:Int) ∧ ρ 2 = .int .i64 (hi:Int) ∧ ρ 3 = .func (.func g) ⟨pre⟩ ⟨cs⟩ ∧ ρ 9 = .int .i64 (i3:Int) ∧ ρ 10 = .int .i64 (5 - ((s + 1:Nat):Int)))
    ⟨i,rfl,Eq.refl _,Nat.le_refl _,hi2,hd,hHs,e0,e1,e2,e3,e9,e10⟩ ?_ ?_
  · clear hd hHs e0 e1 e2 e3 e9 e10 hD;rintro m ρ H2 ⟨i3,rfl,heq2,hi3,hi4,hd,hHs,e0,e1,e2,e3,e9,e10⟩;have hL2:=hd.lowS hLB;have hun:Sort.scanSorted lt d1 hi i3 = if (i3 < hi && !lt d1[i3]! d1[i3 - 1]!) = true then Sort.scanSorted lt d1 hi (i3 + 1) else i3:=by rw [Sort.scanSorted]
    by_cases hij:i3 < hi
    case neg =>
      have hn:¬ (i3:Int) < (hi:Int):=by omega
      rw [if_neg (by simp; omega)] at hun
      have hfin:Sort.scanSorted lt d1 hi i = i3:=heq2.trans hun;clear heq2 hun
      repeat' (first | simp only [↓Zaca,↓Zabv,↓Zabx,↓Zabz,↓Zaai,↓Zabu,↓Zabw,↓Zacw,↓Zacv,↓Zaco,↓Zaak,↓Zacj,↓Zack,↓Zaci,↓Zace,↓Zacl,↓Zach,↓Zacn,↓Zadb,↓Zaaz,↓Zaau,↓Zaam,↓Zaav,↓Zaat,↓Zaan,↓Zaax,↓Zaar,↓Zaay,↓bxPut,↓Zabs,↓Zabr,↓Zaag,↓Zaaf,↓Zabk,↓Zabj,↓Zadc,↓Zabg,↓Zabe,↓dstAt,↓Zabh,Zabd,Zacx,Zaae,Zabi,Zaac,Zacr,Zact,↓reduceIte,Nat.reduceEqDiff,Nat.reduceLT,dec_F,true_and,and_true, *] | (with_reducible first | refine Zacd (by assumption) (by decide +kernel) ?_ | refine Zacc (by decide +kernel) ?_ | refine Zacm (by decide +kernel) ?_ | refine Zacf ?_))
      exact ⟨i3,rfl,hi3,hi4,rfl⟩
    have hp:(i3:Int) < (hi:Int):=by omega
    have hF0:i3 < d1.size:=by omega
    have hF1:i3 - 1 < d1.size:=by omega
    have hwj:IntKind.i64.wrap ((i3:Int) - 1) = ((i3 - 1:Nat):Int):=by rw [IntWalk.i64_in _ (by omega)]; omega
    have hwj1:IntKind.i64.wrap ((i3:Int) + 1) = ((i3 + 1:Nat):Int):=by rw [IntWalk.i64_in _ (by omega)]; omega
    have hix0:Zaaa Try.prog 35 (.slice (some ⟨r,0,none⟩) d.size c) (.int .i64 (i3:Int)) = _:=ixAtP (by omega)
    have hix1:Zaaa Try.prog 35 (.slice (some ⟨r,0,none⟩) d.size c) (.int .i64 ((i3 - 1:Nat):Int)) = _:=ixAtP (by omega)
    have l0:=ldAtP hd hF0;have l1:=ldAtP hd hF1;have hcx:=cmpDP hc hLB hd hV hF0 hF1;obtain ⟨z,Hb,H5,hz,f5,g5,hd5,hs5',hL5⟩:=hcx;have hHs5:H.size ≤ H5.size:=Nat.le_trans hHs hs5';have hcs:lt d1[i3]! d1[i3 - 1]! = true ∨ lt d1[i3]! d1[i3 - 1]! = false:=by cases lt d1[i3]! d1[i3 - 1]! <;> simp
    rcases hcs with hl5 | hl5
    · rw [hl5] at hz;rw [if_neg (by simp; intro _; exact hl5)] at hun
      have hfin:Sort.scanSorted lt d1 hi i = i3:=heq2.trans hun;clear heq2 hun hd
      repeat' (first | simp only [↓Zaca,↓Zabv,↓Zabx,↓Zabz,↓Zaai,↓Zabu,↓Zabw,↓Zacw,↓Zacv,↓Zaco,↓Zaak,↓Zacj,↓Zack,↓Zaci,↓Zace,↓Zacl,↓Zach,↓Zacn,↓Zadb,↓Zaaz,↓Zaau,↓Zaam,↓Zaav,↓Zaat,↓Zaan,↓Zaax,↓Zaar,↓Zaay,↓bxPut,↓Zabs,↓Zabr,↓Zaag,↓Zaaf,↓Zabk,↓Zabj,↓Zadc,↓Zabg,↓Zabe,↓dstAt,↓Zabh,Zabd,Zacx,Zaae,Zabi,una_nt,Zaad,Zacb,Zacs,Zact,List.map,↓reduceIte,Nat.reduceEqDiff,Nat.reduceLT,dec_T,true_and,and_true,Zaab, *] | (with_reducible first | refine Zacd (by assumption) (by decide +kernel) ?_ | refine Zacc (by decide +kernel) ?_ | refine Zacm (by decide +kernel) ?_ | refine Zacf ?_))
      exact ⟨i3,rfl,hi3,hi4,rfl⟩
    · rw [hl5] at hz;rw [if_pos (by simp; exact ⟨hij,hl5⟩)] at hun
      have hfin:Sort.scanSorted lt d1 hi i = Sort.scanSorted lt d1 hi (i3 + 1):=heq2.trans hun;clear heq2 hun hd
      repeat' (first | simp only [↓Zaca,↓Zabv,↓Zabx,↓Zabz,↓Zaai,↓Zabu,↓Zabw,↓Zacw,↓Zacv,↓Zaco,↓Zaak,↓Zacj,↓Zack,↓Zaci,↓Zace,↓Zacl,↓Zach,↓Zacn,↓Zadb,↓Zaaz,↓Zaau,↓Zaam,↓Zaav,↓Zaat,↓Zaan,↓Zaax,↓Zaar,↓Zaay,↓bxPut,↓Zabs,↓Zabr,↓Zaag,↓Zaaf,↓Zabk,↓Zabj,↓Zadc,↓Zabg,↓Zabe,↓dstAt,↓Zabh,Zabd,Zacx,Zaae,Zabi,una_nf,Zaad,Zacb,Zacs,Zacu,List.map,↓reduceIte,Nat.reduceEqDiff,Nat.reduceLT,dec_T,true_and,and_true,Zaab, *] | (with_reducible first | refine Zacd (by assumption) (by decide +kernel) ?_ | refine Zacc (by decide +kernel) ?_ | refine Zacm (by decide +kernel) ?_ | refine Zacf ?_))
      exact ⟨hi - (i3 + 1),by omega,i3 + 1,rfl,Eq.refl _,by omega,by omega,rfl⟩
  clear hd hHs e0 e1 e2 e3 e9 e10 ρ;rintro ρ H2 ⟨i2,hi3,hi4,hi5,hd,hHs,e0,e1,e2,e3,e9,e10⟩;rw [hi3] at hD;clear hi3
  by_cases hend:i2 = hi
  · have hend':decide ((i2:Int) = (hi:Int)) = true:=decide_eq_true (by omega)
    rw [if_pos hend] at hD;have hpost:PostNP HB b r k D H (.bool true) H2:=by rw [hD]; exact ⟨rfl,hd,hHs⟩
    clear hD hend
    repeat' simp only [↓bxPut,↓Zabs,↓Zaaf,↓Zadc,Zacx,Zaae,Zabi,Zacu,↓reduceIte,Nat.reduceEqDiff,Nat.reduceLT, *]
  have hend':decide ((i2:Int) = (hi:Int)) = false:=decide_eq_false (by omega)
  rw [if_neg hend] at hD
  by_cases h50:hi - lo < 50
  · have h50':((hi - lo:Nat):Int) < 50:=by omega
    rw [if_pos h50] at hD;have hpost:PostNP HB b r k D H (.bool false) H2:=by rw [hD]; exact ⟨rfl,hd,hHs⟩
    clear hD hend
    repeat' simp only [↓bxPut,↓Zabs,↓Zaaf,↓Zadc,Zacx,Zaae,Zabi,Zacu,Zact,↓reduceIte,Nat.reduceEqDiff,Nat.reduceLT,dec_T, *]
  have h50':¬ ((hi - lo:Nat):Int) < 50:=by omega
  rw [if_neg h50] at hD;have hwp:IntKind.i64.wrap ((i2:Int) - 1) = ((i2 - 1:Nat):Int):=by rw [IntWalk.i64_in _ (by omega)]; omega
  have hwa:IntKind.i64.wrap ((i2:Int) - (lo:Int)) = ((i2 - lo:Nat):Int):=by rw [IntWalk.i64_in _ (by omega)]; omega
  have hL1:=hd.lowS hLB;have hFa:i2 < (d1).size:=by omega
  have hFb:(i2 - 1) < (d1).size:=by omega
  have hix0:Zaaa Try.prog 35 (.slice (some ⟨r,0,none⟩) d.size c) (.int .i64 (((i2:Nat)):Int)) = _:=ixAtP (by omega)
  have hix1:Zaaa Try.prog 35 (.slice (some ⟨r,0,none⟩) d.size c) (.int .i64 ((((i2 - 1):Nat)):Int)) = _:=ixAtP (by omega)
  have l0:=ldAtP hd hFa;have l1:=ldAtP hd hFb;have hsw:=swDP hLB hd hFa hFb;obtain ⟨H6,H7,H8,H9,hs6,he6,hs7,he7,hd7,hz7,hL9,hL7⟩:=hsw;have hV7:=hV.swp hFa hFb;have hsz7:=(swp_szP d1 i2 (i2 - 1)).trans hsz;have hHs9:H.size ≤ H9.size:=by rw [hz7]; exact hHs
  have hgp:∃ p,p = i2 - 1:=⟨_,rfl⟩;have hgd:∃ e,e = Sort.swp d1 i2 (i2 - 1):=⟨_,rfl⟩;obtain ⟨de,hde⟩:=hgd;rw [← hde] at hd7 hV7 hsz7 hD
  by_cases ha2:i2 - lo ≥ 2
  case neg =>
    have ha2':¬ (2:Int) ≤ ((i2 - lo:Nat):Int):=by omega
    have hfd:Sort.fixDown lt lo i2 de = de:=by unfold Sort.fixDown; rw [if_neg ha2]
    rw [hfd] at hD;clear hd hV hsz hHs hfd hde;have hd:=hd7;have hV:=hV7;have hsz:=hsz7;have hHs:=hHs9;clear hd7 hV7 hsz7 hHs9 hz7;have hwb:IntKind.i64.wrap ((hi:Int) - (i2:Int)) = ((hi - i2:Nat):Int):=by rw [IntWalk.i64_in _ (by omega)]; omega
    by_cases hb2:hi - i2 ≥ 2
    case neg =>
      have hb2':¬ (2:Int) ≤ ((hi - i2:Nat):Int):=by omega
      have hfu:Sort.fixUp lt hi i2 de = de:=by unfold Sort.fixUp; rw [if_neg hb2]
      rw [hfu] at hD;clear hfu
      repeat' (first | simp only [↓Zacn,↓bxPut,↓Zabs,↓Zaaf,↓Zadc,Zacx,Zaae,Zabi,Zact,↓reduceIte,Nat.reduceEqDiff,Nat.reduceLT,dec_F,true_and,Zaab, *] | (with_reducible first | refine Zacd (by assumption) (by decide +kernel) ?_ | refine Zacc (by decide +kernel) ?_ | refine Zacm (by decide +kernel) ?_ | refine Zacf ?_))
      exact ⟨s,Nat.lt_succ_self s,by omega,i2,de,rfl,by omega,by omega,hsz,hV,hd,rfl,rfl⟩
    have hb2':(2:Int) ≤ ((hi - i2:Nat):Int):=by omega
    have hwu:IntKind.i64.wrap ((i2:Int) + 1) = ((i2 + 1:Nat):Int):=by rw [IntWalk.i64_in _ (by omega)]; omega
    have hfu:Sort.fixUp lt hi i2 de = Sort.shiftUp lt hi (i2 + 1) de:=by unfold Sort.fixUp; rw [if_pos hb2]
    rw [hfu] at hD;clear hfu
    repeat' (first | simp only [↓Zacn,↓bxPut,↓Zabs,↓Zaaf,↓Zadc,Zacx,Zaae,Zabi,Zacu,Zact,↓reduceIte,Nat.reduceEqDiff,Nat.reduceLT,dec_T,dec_F,Zaab, *] | (with_reducible first | refine Zacd (by assumption) (by decide +kernel) ?_ | refine Zacc (by decide +kernel) ?_ | refine Zacm (by decide +kernel) ?_ | refine Zacf ?_))
    refine sxL_cut 6 (fun ρ H2 => ∃ d2,D = Sort.partialIns lt lo hi s i2 d2 ∧ d2.size = d.size ∧ AllP V d2 ∧ SaP HB H2 b r k d2 ∧ H.size ≤ H2.size ∧
        ρ 0 = .slice (some ⟨r,0,none⟩) d.size c ∧ ρ 1 = .int .i64 (lo:Int) ∧ ρ 2 = .int .i64 (hi:Int) ∧ ρ 3 = .func (.func g) ⟨pre⟩ ⟨cs⟩ ∧ ρ 9 = .int .i64 (i2:Int) ∧ ρ 10 = .int .i64 (5 - ((s + 1:Nat):Int)))
      (fun m ρ H2 => ∃ j d2,m = hi - j ∧ 1 ≤ j ∧ j ≤ hi ∧ D = Sort.partialIns lt lo hi s i2 (Sort.shiftUp lt hi j d2) ∧ d2.size = d.size ∧ AllP V d2 ∧ SaP HB H2 b r k d2 ∧ H.size ≤ H2.size ∧
        ρ 0 = .slice (some ⟨r,0,none⟩) d.size c ∧ ρ 1 = .int .i64 (lo:Int) ∧ ρ 2 = .int .i64 (hi:Int) ∧ ρ 3 = .func (.func g) ⟨pre⟩ ⟨cs⟩ ∧ ρ 9 = .int .i64 (i2:Int) ∧ ρ 10 = .int .i64 (5 - ((s + 1:Nat):Int)) ∧ ρ 12 = .int .i64 (j:Int))
      ⟨i2 + 1,de,rfl,by omega,by omega,hD,hsz,hV,hd,hHs,(by first | exact e0 | rfl),(by first | exact e1 | rfl),(by first | exact e2 | rfl),(by first | exact e3 | rfl),(by first | exact e9 | rfl),(by first | exact e10 | rfl),rfl⟩ ?_ ?_
    · clear hd hV hsz hHs hD;rintro m ρ H2 ⟨j,d2,rfl,hj1,hj2,hD,hsz,hV,hd,hHs,e0,e1,e2,e3,e9,e10,e12⟩;have hL2:=hd.lowS hLB;rw [Sort.shiftUp] at hD
      by_cases hjb:j < hi
      case neg =>
        have hn:¬ (j:Int) < (hi:Int):=by omega
        rw [if_neg hjb] at hD
        repeat' (first | simp only [↓Zaca,↓Zabv,↓Zabx,↓Zabz,↓Zaai,↓Zabu,↓Zabw,↓Zacw,↓Zacv,↓Zaco,↓Zaak,↓Zacj,↓Zaci,↓Zace,↓Zacl,↓Zach,↓Zadb,↓Zaau,↓Zaam,↓Zaat,↓Zaaw,↓Zaan,↓Zaax,↓Zaar,↓Zaay,↓Zacy,↓bxPut,↓Zabs,↓Zabr,↓Zaag,↓Zaaf,↓Zabk,↓Zabj,↓Zadc,↓Zabg,↓Zabe,Zabd,Zacx,Zaae,Zabi,Zact,↓reduceIte,Nat.reduceEqDiff,Nat.reduceLT,dec_F,and_true,and_self, *] | (with_reducible first | refine Zacd (by assumption) (by decide +kernel) ?_ | refine Zacc (by decide +kernel) ?_ | refine Zacm (by decide +kernel) ?_ | refine Zacf ?_))
        exact ⟨d2,Eq.refl _,hsz,hV,hd⟩
      have hp:(j:Int) < (hi:Int):=by omega
      rw [if_pos hjb] at hD;have hF0:j < d2.size:=by omega
      have hF1:j - 1 < d2.size:=by omega
      have hwj:IntKind.i64.wrap ((j:Int) - 1) = ((j - 1:Nat):Int):=by rw [IntWalk.i64_in _ (by omega)]; omega
      have hwj1:IntKind.i64.wrap ((j:Int) + 1) = ((j + 1:Nat):Int):=by rw [IntWalk.i64_in _ (by omega)]; omega
      have hix0:Zaaa Try.prog 35 (.slice (some ⟨r,0,none⟩) d.size c) (.int .i64 (j:Int)) = _:=ixAtP (by omega)
      have hix1:Zaaa Try.prog 35 (.slice (some ⟨r,0,none⟩) d.size c) (.int .i64 ((j - 1:Nat):Int)) = _:=ixAtP (by omega)
      have l0:=ldAtP hd hF0;have l1:=ldAtP hd hF1;have hcx:=cmpDP hc hLB hd hV hF0 hF1;obtain ⟨z,Hb,H5,hz,f5,g5,hd5,hs5,hL5⟩:=hcx;have hHs5:H.size ≤ H5.size:=Nat.le_trans hHs hs5;have hcs:lt d2[j]! d2[j - 1]! = true ∨ lt d2[j]! d2[j - 1]! = false:=by cases lt d2[j]! d2[j - 1]! <;> simp
      rcases hcs with hl5 | hl5
      · rw [hl5] at hz;rw [if_neg (by rw [hl5]; decide)] at hD
        have hsw:=swDP hLB hd5 hF0 hF1;obtain ⟨H6,H7,H8,H9,hs6,he6,hs7,he7,hd7,hz7,hL9,hL7⟩:=hsw;have l05:=ldAtP hd5 hF0;have l15:=ldAtP hd5 hF1;have hV7:=hV.swp hF0 hF1;have hsz7:=(swp_szP d2 j (j - 1)).trans hsz;have hHs9:H.size ≤ H9.size:=by rw [hz7]; exact hHs5
        have hmm:hi - (j + 1) < hi - j:=by omega
        clear hd hV hsz hd5 hl5
        repeat' (first | simp only [↓Zaca,↓Zabv,↓Zabx,↓Zabz,↓Zaai,↓Zabu,↓Zabw,↓Zacw,↓Zacv,↓Zaco,↓Zaak,↓Zacj,↓Zaci,↓Zace,↓Zacl,↓Zach,↓Zacn,↓Zadb,↓Zaau,↓Zaam,↓Zaat,↓Zaaw,↓Zaan,↓Zaax,↓Zaar,↓Zaay,↓Zacy,↓bxPut,↓Zabs,↓Zabr,↓Zaag,↓Zaaf,↓Zabk,↓Zabj,↓Zadc,↓Zabg,↓Zabe,Zabd,Zacx,Zaae,Zabi,una_nt,Zacb,Zacu,Zact,List.map,↓reduceIte,Nat.reduceEqDiff,Nat.reduceLT,dec_T,true_and,Zaab, *] | (with_reducible first | refine Zacd (by assumption) (by decide +kernel) ?_ | refine Zacc (by decide +kernel) ?_ | refine Zacm (by decide +kernel) ?_ | refine Zacf ?_))
        exact ⟨hi - (j + 1),hmm,j + 1,Sort.swp d2 j (j - 1),rfl,by omega,by omega,Eq.refl _,hsz7,hV7,hd7,rfl⟩
      · rw [hl5] at hz;rw [if_pos (by rw [hl5]; rfl)] at hD
        clear hl5 hd
        repeat' (first | simp only [↓Zaca,↓Zabv,↓Zabx,↓Zabz,↓Zaai,↓Zabu,↓Zabw,↓Zacw,↓Zacv,↓Zaco,↓Zaak,↓Zacj,↓Zaci,↓Zace,↓Zacl,↓Zach,↓Zacn,↓Zadb,↓Zaau,↓Zaam,↓Zaat,↓Zaaw,↓Zaan,↓Zaax,↓Zaar,↓Zaay,↓Zacy,↓bxPut,↓Zabs,↓Zabr,↓Zaag,↓Zaaf,↓Zabk,↓Zabj,↓Zadc,↓Zabg,↓Zabe,Zabd,Zacx,Zaae,Zabi,una_nf,Zacb,Zacu,List.map,↓reduceIte,Nat.reduceEqDiff,Nat.reduceLT,dec_T,and_true,and_self,Zaab, *] | (with_reducible first | refine Zacd (by assumption) (by decide +kernel) ?_ | refine Zacc (by decide +kernel) ?_ | refine Zacm (by decide +kernel) ?_ | refine Zacf ?_))
        exact ⟨d2,Eq.refl _,hsz,hV,hd5⟩
    clear hd hV hsz hHs hD;rintro ρ H2 ⟨d2,hD,hsz,hV,hd,hHs,e0,e1,e2,e3,e9,e10⟩
    repeat' simp only [↓bxPut,↓Zabs,↓Zaag,↓Zaaf,↓Zadc,Zacx,Zaae,Zabi,↓reduceIte,Nat.reduceEqDiff,Nat.reduceLT,true_and, *]
    exact ⟨s,Nat.lt_succ_self s,by omega,i2,d2,Eq.refl _,by omega,by omega,hsz,hV,hd,rfl,rfl⟩
  have ha2':(2:Int) ≤ ((i2 - lo:Nat):Int):=by omega
  have hfd:Sort.fixDown lt lo i2 de = Sort.shiftDown lt (i2 - 1) de:=by unfold Sort.fixDown; rw [if_pos ha2]
  rw [hfd] at hD;have hgj:∃ j0,j0 = i2 - 1:=⟨_,rfl⟩;obtain ⟨j0,hj0⟩:=hgj;have hj0n:j0 < d.size:=by omega
  have hwp2:IntKind.i64.wrap ((i2:Int) - 1) = (j0:Int):=by rw [hwp,hj0]
  rw [← hj0] at hD;clear hd hV hsz hHs hfd hde
  repeat' (first | simp only [↓Zacn,↓bxPut,↓Zabs,↓Zaaf,↓Zadc,Zacx,Zaae,Zabi,Zacu,Zact,↓reduceIte,Nat.reduceEqDiff,Nat.reduceLT,dec_T,dec_F,Zaab, *] | (with_reducible first | refine Zacd (by assumption) (by decide +kernel) ?_ | refine Zacc (by decide +kernel) ?_ | refine Zacm (by decide +kernel) ?_ | refine Zacf ?_))
  refine sxL_cut 4 (fun ρ H2 => ∃ d2,D = Sort.partialIns lt lo hi s i2 (Sort.fixUp lt hi i2 d2) ∧ d2.size = d.size ∧ AllP V d2 ∧ SaP HB H2 b r k d2 ∧ H.size ≤ H2.size ∧
      ρ 0 = .slice (some ⟨r,0,none⟩) d.size c ∧ ρ 1 = .int .i64 (lo:Int) ∧ ρ 2 = .int .i64 (hi:Int) ∧ ρ 3 = .func (.func g) ⟨pre⟩ ⟨cs⟩ ∧ ρ 9 = .int .i64 (i2:Int) ∧ ρ 10 = .int .i64 (5 - ((s + 1:Nat):Int)))
    (fun m ρ H2 => m ≤ j0 ∧ ∃ d2,D = Sort.partialIns lt lo hi s i2 (Sort.fixUp lt hi i2 (Sort.shiftDown lt m d2)) ∧ d2.size = d.size ∧ AllP V d2 ∧ SaP HB H2 b r k d2 ∧ H.size ≤ H2.size ∧
      ρ 0 = .slice (some ⟨r,0,none⟩) d.size c ∧ ρ 1 = .int .i64 (lo:Int) ∧ ρ 2 = .int .i64 (hi:Int) ∧ ρ 3 = .func (.func g) ⟨pre⟩ ⟨cs⟩ ∧ ρ 9 = .int .i64 (i2:Int) ∧ ρ 10 = .int .i64 (5 - ((s + 1:Nat):Int)) ∧ ρ 11 = .int .i64 (m:Int))
    (n:=j0) ⟨Nat.le_refl _,de,hD,hsz7,hV7,hd7,hHs9,e0,e1,e2,e3,e9,e10,(by first | rfl | rw [← hj0]; rfl)⟩ ?_ ?_
  · clear hd7 hV7 hsz7 hHs9 hD e0 e1 e2 e3 e9 e10 hix0 hix1 l0 l1 hs6 he6 hs7 he7 hz7 hL7 hL9 hL1 hFa hFb hwp hwp2 hj0;rintro m ρ H2 ⟨hmj,d2,hD,hsz,hV,hd,hHs,e0,e1,e2,e3,e9,e10,e11⟩;have hL2:=hd.lowS hLB;cases m with
    | zero =>
      have hn:¬ (1:Int) ≤ ((0:Nat):Int):=by decide
      replace hD:D = Sort.partialIns lt lo hi s i2 (Sort.fixUp lt hi i2 d2):=hD
      repeat' (first | simp only [↓Zaca,↓Zabv,↓Zabx,↓Zabz,↓Zaai,↓Zabu,↓Zabw,↓Zacw,↓Zacv,↓Zaco,↓Zaak,↓Zacj,↓Zaci,↓Zace,↓Zacl,↓Zach,↓Zadb,↓Zaau,↓Zaam,↓Zaat,↓Zaaw,↓Zaan,↓Zaax,↓Zaar,↓Zaay,↓Zacy,↓bxPut,↓Zabs,↓Zabr,↓Zaag,↓Zaaf,↓Zabk,↓Zabj,↓Zadc,↓Zabg,↓Zabe,Zabd,Zacx,Zaae,Zabi,Zact,↓reduceIte,Nat.reduceEqDiff,Nat.reduceLT,dec_F,and_true,and_self, *] | (with_reducible first | refine Zacd (by assumption) (by decide +kernel) ?_ | refine Zacc (by decide +kernel) ?_ | refine Zacm (by decide +kernel) ?_ | refine Zacf ?_))
      exact ⟨d2,Eq.refl _,hsz,hV,hd⟩
    | succ m =>
    have hp:(1:Int) ≤ ((m + 1:Nat):Int):=by omega
    have hsd:Sort.shiftDown lt (m + 1) d2 = if !lt d2[m + 1]! d2[m]! then d2 else Sort.shiftDown lt m (Sort.swp d2 (m + 1) m):=rfl
    rw [hsd] at hD;clear hsd;have hF0:m + 1 < d2.size:=by omega
    have hF1:m < d2.size:=by omega
    have hwj:IntKind.i64.wrap (((m + 1:Nat):Int) - 1) = (m:Int):=by rw [IntWalk.i64_in _ (by omega)]; omega
    have hix0:Zaaa Try.prog 35 (.slice (some ⟨r,0,none⟩) d.size c) (.int .i64 ((m + 1:Nat):Int)) = _:=ixAtP (by omega)
    have hix1:Zaaa Try.prog 35 (.slice (some ⟨r,0,none⟩) d.size c) (.int .i64 (m:Int)) = _:=ixAtP (by omega)
    have l0:=ldAtP hd hF0;have l1:=ldAtP hd hF1;have hcx:=cmpDP hc hLB hd hV hF0 hF1;obtain ⟨z,Hb,H5,hz,f5,g5,hd5,hs5',hL5⟩:=hcx;have hHs5:H.size ≤ H5.size:=Nat.le_trans hHs hs5';have hcs:lt d2[m + 1]! d2[m]! = true ∨ lt d2[m + 1]! d2[m]! = false:=by cases lt d2[m + 1]! d2[m]! <;> simp
    rcases hcs with hl5 | hl5
    · rw [hl5] at hz;rw [if_neg (by rw [hl5]; decide)] at hD
      have hsw:=swDP hLB hd5 hF0 hF1;obtain ⟨H6,H7,H8,H9,hs6,he6,hs7,he7,hd7,hz7,hL9,hL7⟩:=hsw;have l05:=ldAtP hd5 hF0;have l15:=ldAtP hd5 hF1;have hV7:=hV.swp hF0 hF1;have hsz7:=(swp_szP d2 (m + 1) m).trans hsz;have hHs9:H.size ≤ H9.size:=by rw [hz7]; exact hHs5
      clear hd hV hsz hd5 hl5 hz7
      repeat' (first | simp only [↓Zaca,↓Zabv,↓Zabx,↓Zabz,↓Zaai,↓Zabu,↓Zabw,↓Zacw,↓Zacv,↓Zaco,↓Zaak,↓Zacj,↓Zaci,↓Zace,↓Zacl,↓Zach,↓Zacn,↓Zadb,↓Zaau,↓Zaam,↓Zaat,↓Zaaw,↓Zaan,↓Zaax,↓Zaar,↓Zaay,↓Zacy,↓bxPut,↓Zabs,↓Zabr,↓Zaag,↓Zaaf,↓Zabk,↓Zabj,↓Zadc,↓Zabg,↓Zabe,Zabd,Zacx,Zaae,Zabi,una_nt,Zacb,Zacu,Zact,List.map,↓reduceIte,Nat.reduceEqDiff,Nat.reduceLT,dec_T,true_and,Zaab, *] | (with_reducible first | refine Zacd (by assumption) (by decide +kernel) ?_ | refine Zacc (by decide +kernel) ?_ | refine Zacm (by decide +kernel) ?_ | refine Zacf ?_))
      exact ⟨m,Nat.lt_succ_self m,by omega,Sort.swp d2 (m + 1) m,Eq.refl _,hsz7,hV7,hd7,rfl⟩
    · rw [hl5] at hz;rw [if_pos (by rw [hl5]; rfl)] at hD
      clear hl5 hd
      repeat' (first | simp only [↓Zaca,↓Zabv,↓Zabx,↓Zabz,↓Zaai,↓Zabu,↓Zabw,↓Zacw,↓Zacv,↓Zaco,↓Zaak,↓Zacj,↓Zaci,↓Zace,↓Zacl,↓Zach,↓Zacn,↓Zadb,↓Zaau,↓Zaam,↓Zaat,↓Zaaw,↓Zaan,↓Zaax,↓Zaar,↓Zaay,↓Zacy,↓bxPut,↓Zabs,↓Zabr,↓Zaag,↓Zaaf,↓Zabk,↓Zabj,↓Zadc,↓Zabg,↓Zabe,Zabd,Zacx,Zaae,Zabi,una_nf,Zacb,Zacu,List.map,↓reduceIte,Nat.reduceEqDiff,Nat.reduceLT,dec_T,and_true,and_self,Zaab, *] | (with_reducible first | refine Zacd (by assumption) (by decide +kernel) ?_ | refine Zacc (by decide +kernel) ?_ | refine Zacm (by decide +kernel) ?_ | refine Zacf ?_))
      exact ⟨d2,Eq.refl _,hsz,hV,hd5⟩
  clear hd7 hV7 hsz7 hHs9 hD e0 e1 e2 e3 e9 e10 hix0 hix1 l0 l1 hs6 he6 hs7 he7 hz7 hL7 hL9 hL1 hFa hFb hwp hwp2 hj0 ρ;rintro ρ H2 ⟨dg,hD,hsz,hV,hd,hHs,e0,e1,e2,e3,e9,e10⟩;have hwb:IntKind.i64.wrap ((hi:Int) - (i2:Int)) = ((hi - i2:Nat):Int):=by rw [IntWalk.i64_in _ (by omega)]; omega
  by_cases hb2:hi - i2 ≥ 2
  case neg =>
    have hb2':¬ (2:Int) ≤ ((hi - i2:Nat):Int):=by omega
    have hfu:Sort.fixUp lt hi i2 dg = dg:=by unfold Sort.fixUp; rw [if_neg hb2]
    rw [hfu] at hD;clear hfu
    repeat' simp only [↓bxPut,↓Zabs,↓Zaaf,↓Zadc,Zacx,Zaae,Zabi,Zact,↓reduceIte,Nat.reduceEqDiff,Nat.reduceLT,dec_F,true_and, *]
    exact ⟨s,Nat.lt_succ_self s,by omega,i2,dg,rfl,by omega,by omega,hsz,hV,hd,rfl,rfl⟩
  have hb2':(2:Int) ≤ ((hi - i2:Nat):Int):=by omega
  have hwu:IntKind.i64.wrap ((i2:Int) + 1) = ((i2 + 1:Nat):Int):=by rw [IntWalk.i64_in _ (by omega)]; omega
  have hfu:Sort.fixUp lt hi i2 dg = Sort.shiftUp lt hi (i2 + 1) dg:=by unfold Sort.fixUp; rw [if_pos hb2]
  rw [hfu] at hD;clear hfu
  repeat' simp only [↓bxPut,↓Zabs,↓Zaaf,↓Zadc,Zacx,Zaae,Zabi,Zacu,↓reduceIte,Nat.reduceEqDiff,Nat.reduceLT,dec_T, *]
  refine sxL_cut 6 (fun ρ H2 => ∃ d2,D = Sort.partialIns lt lo hi s i2 d2 ∧ d2.size = d.size ∧ AllP V d2 ∧ SaP HB H2 b r k d2 ∧ H.size ≤ H2.size ∧
      ρ 0 = .slice (some ⟨r,0,none⟩) d.size c ∧ ρ 1 = .int .i64 (lo:Int) ∧ ρ 2 = .int .i64 (hi:Int) ∧ ρ 3 = .func (.func g) ⟨pre⟩ ⟨cs⟩ ∧ ρ 9 = .int .i64 (i2:Int) ∧ ρ 10 = .int .i64 (5 - ((s + 1:Nat):Int)))
    (fun m ρ H2 => ∃ j d2,m = hi - j ∧ 1 ≤ j ∧ j ≤ hi ∧ D = Sort.partialIns lt lo hi s i2 (Sort.shiftUp lt hi j d2) ∧ d2.size = d.size ∧ AllP V d2 ∧ SaP HB H2 b r k d2 ∧ H.size ≤ H2.size ∧
      ρ 0 = .slice (some ⟨r,0,none⟩) d.size c ∧ ρ 1 = .int .i64 (lo:Int) ∧ ρ 2 = .int .i64 (hi:Int) ∧ ρ 3 = .func (.func g) ⟨pre⟩ ⟨cs⟩ ∧ ρ 9 = .int .i64 (i2:Int) ∧ ρ 10 = .int .i64 (5 - ((s + 1:Nat):Int)) ∧ ρ 12 = .int .i64 (j:Int))
    ⟨i2 + 1,dg,rfl,by omega,by omega,hD,hsz,hV,hd,hHs,(by first | exact e0 | rfl),(by first | exact e1 | rfl),(by first | exact e2 | rfl),(by first | exact e3 | rfl),(by first | exact e9 | rfl),(by first | exact e10 | rfl),rfl⟩ ?_ ?_
  · clear hd hV hsz hHs hD;rintro m ρ H2 ⟨j,d2,rfl,hj1,hj2,hD,hsz,hV,hd,hHs,e0,e1,e2,e3,e9,e10,e12⟩;have hL2:=hd.lowS hLB;rw [Sort.shiftUp] at hD
    by_cases hjb:j < hi
    case neg =>
      have hn:¬ (j:Int) < (hi:Int):=by omega
      rw [if_neg hjb] at hD
      repeat' (first | simp only [↓Zaca,↓Zabv,↓Zabx,↓Zabz,↓Zaai,↓Zabu,↓Zabw,↓Zacw,↓Zacv,↓Zaco,↓Zaak,↓Zacj,↓Zaci,↓Zace,↓Zacl,↓Zach,↓Zadb,↓Zaau,↓Zaam,↓Zaat,↓Zaaw,↓Zaan,↓Zaax,↓Zaar,↓Zaay,↓Zacy,↓bxPut,↓Zabs,↓Zabr,↓Zaag,↓Zaaf,↓Zabk,↓Zabj,↓Zadc,↓Zabg,↓Zabe,Zabd,Zacx,Zaae,Zabi,Zact,↓reduceIte,Nat.reduceEqDiff,Nat.reduceLT,dec_F,and_true,and_self, *] | (with_reducible first | refine Zacd (by assumption) (by decide +kernel) ?_ | refine Zacc (by decide +kernel) ?_ | refine Zacm (by decide +kernel) ?_ | refine Zacf ?_))
      exact ⟨d2,Eq.refl _,hsz,hV,hd⟩
    have hp:(j:Int) < (hi:Int):=by omega
    rw [if_pos hjb] at hD;have hF0:j < d2.size:=by omega
    have hF1:j - 1 < d2.size:=by omega
    have hwj:IntKind.i64.wrap ((j:Int) - 1) = ((j - 1:Nat):Int):=by rw [IntWalk.i64_in _ (by omega)]; omega
    have hwj1:IntKind.i64.wrap ((j:Int) + 1) = ((j + 1:Nat):Int):=by rw [IntWalk.i64_in _ (by omega)]; omega
    have hix0:Zaaa Try.prog 35 (.slice (some ⟨r,0,none⟩) d.size c) (.int .i64 (j:Int)) = _:=ixAtP (by omega)
    have hix1:Zaaa Try.prog 35 (.slice (some ⟨r,0,none⟩) d.size c) (.int .i64 ((j - 1:Nat):Int)) = _:=ixAtP (by omega)
    have l0:=ldAtP hd hF0;have l1:=ldAtP hd hF1;have hcx:=cmpDP hc hLB hd hV hF0 hF1;obtain ⟨z,Hb,H5,hz,f5,g5,hd5,hs5,hL5⟩:=hcx;have hHs5:H.size ≤ H5.size:=Nat.le_trans hHs hs5;have hcs:lt d2[j]! d2[j - 1]! = true ∨ lt d2[j]! d2[j - 1]! = false:=by cases lt d2[j]! d2[j - 1]! <;> simp
    rcases hcs with hl5 | hl5
    · rw [hl5] at hz;rw [if_neg (by rw [hl5]; decide)] at hD
      have hsw:=swDP hLB hd5 hF0 hF1;obtain ⟨H6,H7,H8,H9,hs6,he6,hs7,he7,hd7,hz7,hL9,hL7⟩:=hsw;have l05:=ldAtP hd5 hF0;have l15:=ldAtP hd5 hF1;have hV7:=hV.swp hF0 hF1;have hsz7:=(swp_szP d2 j (j - 1)).trans hsz;have hHs9:H.size ≤ H9.size:=by rw [hz7]; exact hHs5
      have hmm:hi - (j + 1) < hi - j:=by omega
      clear hd hV hsz hd5 hl5
      repeat' (first | simp only [↓Zaca,↓Zabv,↓Zabx,↓Zabz,↓Zaai,↓Zabu,↓Zabw,↓Zacw,↓Zacv,↓Zaco,↓Zaak,↓Zacj,↓Zaci,↓Zace,↓Zacl,↓Zach,↓Zacn,↓Zadb,↓Zaau,↓Zaam,↓Zaat,↓Zaaw,↓Zaan,↓Zaax,↓Zaar,↓Zaay,↓Zacy,↓bxPut,↓Zabs,↓Zabr,↓Zaag,↓Zaaf,↓Zabk,↓Zabj,↓Zadc,↓Zabg,↓Zabe,Zabd,Zacx,Zaae,Zabi,una_nt,Zacb,Zacu,Zact,List.map,↓reduceIte,Nat.reduceEqDiff,Nat.reduceLT,dec_T,true_and,Zaab, *] | (with_reducible first | refine Zacd (by assumption) (by decide +kernel) ?_ | refine Zacc (by decide +kernel) ?_ | refine Zacm (by decide +kernel) ?_ | refine Zacf ?_))
      exact ⟨hi - (j + 1),hmm,j + 1,Sort.swp d2 j (j - 1),rfl,by omega,by omega,Eq.refl _,hsz7,hV7,hd7,rfl⟩
    · rw [hl5] at hz;rw [if_pos (by rw [hl5]; rfl)] at hD
      clear hl5 hd
      repeat' (first | simp only [↓Zaca,↓Zabv,↓Zabx,↓Zabz,↓Zaai,↓Zabu,↓Zabw,↓Zacw,↓Zacv,↓Zaco,↓Zaak,↓Zacj,↓Zaci,↓Zace,↓Zacl,↓Zach,↓Zacn,↓Zadb,↓Zaau,↓Zaam,↓Zaat,↓Zaaw,↓Zaan,↓Zaax,↓Zaar,↓Zaay,↓Zacy,↓bxPut,↓Zabs,↓Zabr,↓Zaag,↓Zaaf,↓Zabk,↓Zabj,↓Zadc,↓Zabg,↓Zabe,Zabd,Zacx,Zaae,Zabi,una_nf,Zacb,Zacu,List.map,↓reduceIte,Nat.reduceEqDiff,Nat.reduceLT,dec_T,and_true,and_self,Zaab, *] | (with_reducible first | refine Zacd (by assumption) (by decide +kernel) ?_ | refine Zacc (by decide +kernel) ?_ | refine Zacm (by decide +kernel) ?_ | refine Zacf ?_))
      exact ⟨d2,Eq.refl _,hsz,hV,hd5⟩
  clear hd hV hsz hHs hD;rintro ρ H2 ⟨d2,hD,hsz,hV,hd,hHs,e0,e1,e2,e3,e9,e10⟩
  repeat' simp only [↓bxPut,↓Zabs,↓Zaag,↓Zaaf,↓Zadc,Zacx,Zaae,Zabi,↓reduceIte,Nat.reduceEqDiff,Nat.reduceLT,true_and, *]
  exact ⟨s,Nat.lt_succ_self s,by omega,i2,d2,Eq.refl _,by omega,by omega,hsz,hV,hd,rfl,rfl⟩
end Go.Proofs.Yteechkbnccpicaa
