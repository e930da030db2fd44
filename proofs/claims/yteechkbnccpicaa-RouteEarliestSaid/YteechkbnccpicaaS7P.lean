/- The elements that are equal to one of a range. -/
import Derived.Test.YteechkbnccpicaaS6P
set_option linter.unusedVariables false
set_option linter.unusedSimpArgs false
set_option linter.unusedSectionVars false

namespace Go.Proofs.Yteechkbnccpicaa
open Go Go.AM
set_option maxRecDepth 10000
def PostEP (HB:Base) (b r:Nat) (k:Bool) (D:Nat × Array (Int × Int)) (H:Heap) (u:Value) (H':Heap):Prop:=u = .int .i64 (D.1:Int) ∧ SaP HB H' b r k D.2 ∧ H.size ≤ H'.size
variable {S:AM.Sys} (hS:Only S 11) {g:FuncId} {pre cs:List Value} {HB:Base} {V:(Int × Int) → Prop} {lt:(Int × Int) → (Int × Int) → Bool} (hc:CmpP S g pre cs HB V lt) (hLB:HB.low ≤ HB.size) {b r c:Nat} {k:Bool}
include hS hc hLB

set_option maxHeartbeats 4000000 in
theorem peqP_runs (d:Array (Int × Int)) (lo hi pv:Nat) (H:Heap) (hd:SaP HB H b r k d) (hV:AllP V d) (h0:lo ≤ pv) (h1:pv < hi) (h2:hi ≤ d.size) (hm:d.size ≤ 100000000) :
    ∃ u H',Runs Try.prog S (.fn 102) [.slice (some ⟨r,0,none⟩) d.size c,.int .i64 (lo:Int),.int .i64 (hi:Int),.int .i64 (pv:Int),.func (.func g) ⟨pre⟩ ⟨cs⟩] H u H' ∧ PostEP HB b r k (Sort.partitionEqual lt d lo hi pv) H u H':=by
  suffices h:WCall Try.prog S (.fn 102) [.slice (some ⟨r,0,none⟩) d.size c,.int .i64 (lo:Int),.int .i64 (hi:Int),.int .i64 (pv:Int),.func (.func g) ⟨pre⟩ ⟨cs⟩] H (fun u H' => PostEP HB b r k (Sort.partitionEqual lt d lo hi pv) H u H') by
    obtain ⟨u,H',hr,h⟩:=h; exact ⟨u,H',hr,h⟩
  have hmx:Go.maxLen = 9223372036854775807:=rfl;refine Zaba Try.func102 rfl (Nat.le_of_ble_eq_true rfl) (hS.no rfl _ _) ?_
  rw [Try.ntmps102,Try.results102];have hgo:∃ D,D = Sort.partitionEqual lt d lo hi pv:=⟨_,rfl⟩;obtain ⟨D,hD⟩:=hgo;rw [← hD];unfold Sort.partitionEqual at hD;have hsz:d.size = d.size:=rfl;have hHs:H.size ≤ H.size:=Nat.le_refl _;have hL1:=hd.lowS hLB;have hFa:lo < (d).size:=by omega
  have hFb:pv < (d).size:=by omega
  have hix0:Zaaa Try.prog 35 (.slice (some ⟨r,0,none⟩) d.size c) (.int .i64 (((lo:Nat)):Int)) = _:=ixAtP (by omega)
  have hix1:Zaaa Try.prog 35 (.slice (some ⟨r,0,none⟩) d.size c) (.int .i64 (((pv:Nat)):Int)) = _:=ixAtP (by omega)
  have l0:=ldAtP hd hFa;have l1:=ldAtP hd hFb;have hsw:=swDP hLB hd hFa hFb;obtain ⟨H6,H7,H8,H9,hs6,he6,hs7,he7,hd7,hz7,hL9,hL7⟩:=hsw;have hV7:=hV.swp hFa hFb;have hsz7:=(swp_szP d lo pv).trans hsz;have hHs9:H.size ≤ H9.size:=by rw [hz7]; exact hHs
  have hgi:∃ i0,i0 = lo + 1:=⟨_,rfl⟩;obtain ⟨i0,hi0⟩:=hgi;have hgj:∃ j0,j0 = hi - 1:=⟨_,rfl⟩;obtain ⟨j0,hj0⟩:=hgj;rw [← hi0,← hj0] at hD;have hi0a:1 ≤ i0:=by omega
  have hi0b:i0 ≤ d.size:=by omega
  have hj0a:j0 < d.size:=by omega
  have hwi:IntKind.i64.wrap ((lo:Int) + 1) = (i0:Int):=by rw [IntWalk.i64_in _ (by omega)]; omega
  have hwj:IntKind.i64.wrap ((hi:Int) - 1) = (j0:Int):=by rw [IntWalk.i64_in _ (by omega)]; omega
  clear hi0 hj0;have hgs:∃ dS,dS = Sort.swp d lo pv:=⟨_,rfl⟩;obtain ⟨dS,hdS⟩:=hgs;rw [← hdS] at hd7 hV7 hsz7 hD;clear hd hV hHs hsz hdS
  repeat' (first | simp only [↓Zabv,↓Zabx,↓Zabz,↓Zaaj,↓Zabu,↓Zaby,↓Zacw,↓Zacv,↓Zaco,↓Zaak,↓Zacj,↓Zaci,↓Zach,↓Zacn,↓Zadb,↓Zaau,↓Zaam,↓Zaat,↓Zaaw,↓Zaan,↓Zaar,↓Zacy,↓bxPut,↓Zabs,↓Zabq,↓Zacz,↓Zada,↓Zadc,↓Zabg,↓Zabe,Zacx,Zaae,Zabi,Zabm,↓reduceIte,Nat.reduceEqDiff,Nat.reduceLT,Zaab, *,argF,List.getD_cons_zero,List.getD_cons_succ] | (with_reducible first | refine Zacd (by assumption) (by decide +kernel) ?_ | refine Zacc (by decide +kernel) ?_ | refine Zacm (by decide +kernel) ?_ | refine Zacf ?_))
  clear l0 l1 hs6 he6 hs7 he7;clear hix0 hix1 hFa hFb;have hd:=hd7;have hV:=hV7;have hsz:=hsz7;have hHs:=hHs9;clear hd7 hV7 hsz7 hHs9 hL1;refine sxL_cut 0 (fun ρ H2 => ∃ (i:Nat) (d2:Array (Int × Int)),D = (i,d2) ∧ SaP HB H2 b r k d2 ∧ H.size ≤ H2.size ∧ ρ 11 = .int .i64 (i:Int))
    (fun m ρ H2 => ∃ (i j:Nat) (d2:Array (Int × Int)),m = j + 1 - i ∧ D = Sort.partEqLoop lt lo i j d2 ∧ 1 ≤ i ∧ i ≤ d.size ∧ j < d.size ∧ d2.size = d.size ∧ AllP V d2 ∧ SaP HB H2 b r k d2 ∧ H.size ≤ H2.size ∧
      ρ 0 = .slice (some ⟨r,0,none⟩) d.size c ∧ ρ 1 = .int .i64 (lo:Int) ∧ ρ 4 = .func (.func g) ⟨pre⟩ ⟨cs⟩ ∧ ρ 11 = .int .i64 (i:Int) ∧ ρ 12 = .int .i64 (j:Int))
    ⟨i0,j0,dS,rfl,hD,hi0a,hi0b,hj0a,hsz,hV,hd,hHs,rfl,rfl,rfl,rfl,rfl⟩ ?_ ?_
  · clear hd hV hsz hHs hD hwi hwj hi0a hi0b hj0a hL7 hL9;rintro m ρ H2 ⟨iq,jq,dq,rfl,hD,hi0a,hi0b,hj0a,hsz,hV,hd,hHs,e0,e1,e4,eI,eJ⟩
    repeat' (first | simp only [↓Zaca,↓Zabv,↓Zabx,↓Zabz,↓Zaai,↓Zaaj,↓Zabu,↓Zabw,↓Zacw,↓Zacv,↓Zaco,↓Zaak,↓Zacj,↓Zaci,↓Zach,↓Zadb,↓Zaau,↓Zaam,↓Zaat,↓Zaaw,↓Zaan,↓Zaar,↓Zacy,↓Zabs,↓Zabr,↓Zaag,↓Zaaf,↓Zabk,↓Zabj,↓Zabg,↓Zabe,Zabd, *] | (with_reducible first | refine Zacd (by assumption) (by decide +kernel) ?_ | refine Zacc (by decide +kernel) ?_ | refine Zacm (by decide +kernel) ?_ | refine Zacf ?_))
    refine sxL_cut 2 (fun ρ H2 => ∃ i2,Sort.scanUp (fun x => !lt dq[lo]! x) dq jq iq = i2 ∧ iq ≤ i2 ∧ i2 ≤ d.size ∧ SaP HB H2 b r k dq ∧ H.size ≤ H2.size ∧
        ρ 0 = .slice (some ⟨r,0,none⟩) d.size c ∧ ρ 1 = .int .i64 (lo:Int) ∧ ρ 4 = .func (.func g) ⟨pre⟩ ⟨cs⟩ ∧ ρ 11 = .int .i64 (i2:Int) ∧ ρ 12 = .int .i64 (jq:Int))
      (fun m ρ H2 => ∃ i,m = jq + 1 - i ∧ Sort.scanUp (fun x => !lt dq[lo]! x) dq jq iq = Sort.scanUp (fun x => !lt dq[lo]! x) dq jq i ∧ iq ≤ i ∧ i ≤ d.size ∧ SaP HB H2 b r k dq ∧ H.size ≤ H2.size ∧
        ρ 0 = .slice (some ⟨r,0,none⟩) d.size c ∧ ρ 1 = .int .i64 (lo:Int) ∧ ρ 4 = .func (.func g) ⟨pre⟩ ⟨cs⟩ ∧ ρ 11 = .int .i64 (i:Int) ∧ ρ 12 = .int .i64 (jq:Int))
      ⟨iq,rfl,Eq.refl _,Nat.le_refl _,by omega,hd,hHs,(by first | exact e0 | rfl),(by first | exact e1 | rfl),(by first | exact e4 | rfl),(by first | exact eI | rfl),(by first | exact eJ | rfl)⟩ ?_ ?_
    · first | clear hd hHs e0 e1 e4 eI eJ | clear hd hHs
      rintro m ρ H2 ⟨i,rfl,heq2,hi1,hi2,hd,hHs,e0,e1,e4,eI,eJ⟩;have hL2:=hd.lowS hLB;have hun:Sort.scanUp (fun x => !lt dq[lo]! x) dq jq i = if (i ≤ jq && (fun x => !lt dq[lo]! x) dq[i]!) = true then Sort.scanUp (fun x => !lt dq[lo]! x) dq jq (i + 1) else i:=by rw [Sort.scanUp]
      by_cases hij:i ≤ jq
      case neg =>
        have hn:¬ (i:Int) ≤ (jq:Int):=by omega
        rw [if_neg (by simp; omega)] at hun
        have hfin:Sort.scanUp (fun x => !lt dq[lo]! x) dq jq iq = i:=heq2.trans hun
        clear heq2 hun
        repeat' (first | simp only [↓Zaca,↓Zabv,↓Zabx,↓Zabz,↓Zaai,↓Zabu,↓Zabw,↓Zacw,↓Zacv,↓Zaco,↓Zaak,↓Zacj,↓Zack,↓Zaci,↓Zace,↓Zacl,↓Zach,↓Zacn,↓Zadb,↓Zaaz,↓Zaau,↓Zaam,↓Zaav,↓Zaat,↓Zaan,↓Zaax,↓Zaar,↓Zaay,↓bxPut,↓Zabs,↓Zabr,↓Zaag,↓Zaaf,↓Zabk,↓Zabj,↓Zadc,↓Zabg,↓Zabe,↓dstAt,↓Zabh,Zabd,Zacx,Zaae,Zabi,Zaac,Zacr,Zact,↓reduceIte,Nat.reduceEqDiff,Nat.reduceLT,dec_F,true_and,and_true, *] | (with_reducible first | refine Zacd (by assumption) (by decide +kernel) ?_ | refine Zacc (by decide +kernel) ?_ | refine Zacm (by decide +kernel) ?_ | refine Zacf ?_))
        exact ⟨i,rfl,hi1,hi2,rfl⟩
      have hp:(i:Int) ≤ (jq:Int):=by omega
      have hFi:i < (dq).size:=by omega
      have hwi:IntKind.i64.wrap ((i:Int) + 1) = ((i + 1:Nat):Int):=by rw [IntWalk.i64_in _ (by omega)]; omega
      have hix0:Zaaa Try.prog 35 (.slice (some ⟨r,0,none⟩) d.size c) (.int .i64 (lo:Int)) = _:=ixAtP (by omega)
      have hix1:Zaaa Try.prog 35 (.slice (some ⟨r,0,none⟩) d.size c) (.int .i64 (i:Int)) = _:=ixAtP (by omega)
      have l0:=ldAtP hd (show lo < (dq).size by omega)
      have l1:=ldAtP hd hFi;have hcx:=cmpDP hc hLB hd hV (show lo < (dq).size by omega) (show i < (dq).size by omega)
      obtain ⟨z,Hb,H5,hz,f5,g5,hd5,hs5,hL5⟩:=hcx;have hHs5:H.size ≤ H5.size:=Nat.le_trans hHs hs5;have hcs:lt (dq)[lo]! (dq)[i]! = false ∨ lt (dq)[lo]! (dq)[i]! = true:=by cases lt (dq)[lo]! (dq)[i]! <;> simp
      rcases hcs with hl5 | hl5
      · rw [hl5] at hz;rw [if_pos (by simp; exact ⟨hij,by first | exact hl5 | (rw [hl5])⟩)] at hun
        have hfin:Sort.scanUp (fun x => !lt dq[lo]! x) dq jq iq = Sort.scanUp (fun x => !lt dq[lo]! x) dq jq (i + 1):=heq2.trans hun
        clear heq2 hun hd
        repeat' (first | simp only [↓Zaca,↓Zabv,↓Zabx,↓Zabz,↓Zaai,↓Zabu,↓Zabw,↓Zacw,↓Zacv,↓Zaco,↓Zaak,↓Zacj,↓Zack,↓Zaci,↓Zace,↓Zacl,↓Zach,↓Zacn,↓Zadb,↓Zaaz,↓Zaau,↓Zaam,↓Zaav,↓Zaat,↓Zaan,↓Zaax,↓Zaar,↓Zaay,↓bxPut,↓Zabs,↓Zabr,↓Zaag,↓Zaaf,↓Zabk,↓Zabj,↓Zadc,↓Zabg,↓Zabe,↓dstAt,↓Zabh,Zabd,Zacx,Zaae,Zabi,una_nf,Zaad,Zacb,Zacs,Zacu,List.map,↓reduceIte,Nat.reduceEqDiff,Nat.reduceLT,dec_T,true_and,and_true,Zaab, *] | (with_reducible first | refine Zacd (by assumption) (by decide +kernel) ?_ | refine Zacc (by decide +kernel) ?_ | refine Zacm (by decide +kernel) ?_ | refine Zacf ?_))
        exact ⟨jq + 1 - (i + 1),by omega,i + 1,rfl,Eq.refl _,by omega,by omega,rfl⟩
      · rw [hl5] at hz;rw [if_neg (by simp; intro _; first | exact hl5 | (rw [hl5]) | (rw [hl5]; decide))] at hun
        have hfin:Sort.scanUp (fun x => !lt dq[lo]! x) dq jq iq = i:=heq2.trans hun
        clear heq2 hun hd
        repeat' (first | simp only [↓Zaca,↓Zabv,↓Zabx,↓Zabz,↓Zaai,↓Zabu,↓Zabw,↓Zacw,↓Zacv,↓Zaco,↓Zaak,↓Zacj,↓Zack,↓Zaci,↓Zace,↓Zacl,↓Zach,↓Zacn,↓Zadb,↓Zaaz,↓Zaau,↓Zaam,↓Zaav,↓Zaat,↓Zaan,↓Zaax,↓Zaar,↓Zaay,↓bxPut,↓Zabs,↓Zabr,↓Zaag,↓Zaaf,↓Zabk,↓Zabj,↓Zadc,↓Zabg,↓Zabe,↓dstAt,↓Zabh,Zabd,Zacx,Zaae,Zabi,una_nt,Zaad,Zacb,Zacs,Zact,List.map,↓reduceIte,Nat.reduceEqDiff,Nat.reduceLT,dec_T,true_and,and_true,Zaab, *] | (with_reducible first | refine Zacd (by assumption) (by decide +kernel) ?_ | refine Zacc (by decide +kernel) ?_ | refine Zacm (by decide +kernel) ?_ | refine Zacf ?_))
        exact ⟨i,rfl,hi1,hi2,rfl⟩
    first | clear hd hHs e0 e1 e4 eI eJ | clear hd hHs
    rintro ρ H2 ⟨i2,hi2,hi21,hi22,hd,hHs,e0,e1,e4,eI,eJ⟩
    repeat' simp only [↓Zabs,↓Zaaf,↓reduceIte, *]
    refine sxL_cut 4 (fun ρ H2 => ∃ j2,Sort.scanDown (fun x => lt dq[lo]! x) dq i2 jq = j2 ∧ j2 ≤ jq ∧ SaP HB H2 b r k dq ∧ H.size ≤ H2.size ∧
        ρ 0 = .slice (some ⟨r,0,none⟩) d.size c ∧ ρ 1 = .int .i64 (lo:Int) ∧ ρ 4 = .func (.func g) ⟨pre⟩ ⟨cs⟩ ∧ ρ 11 = .int .i64 (i2:Int) ∧ ρ 12 = .int .i64 (j2:Int))
      (fun m ρ H2 => m ≤ jq ∧ Sort.scanDown (fun x => lt dq[lo]! x) dq i2 jq = Sort.scanDown (fun x => lt dq[lo]! x) dq i2 m ∧ SaP HB H2 b r k dq ∧ H.size ≤ H2.size ∧
        ρ 0 = .slice (some ⟨r,0,none⟩) d.size c ∧ ρ 1 = .int .i64 (lo:Int) ∧ ρ 4 = .func (.func g) ⟨pre⟩ ⟨cs⟩ ∧ ρ 11 = .int .i64 (i2:Int) ∧ ρ 12 = .int .i64 (m:Int))
      (n:=jq) ⟨Nat.le_refl _,Eq.refl _,hd,hHs,(by first | exact e0 | rfl),(by first | exact e1 | rfl),(by first | exact e4 | rfl),(by first | exact eI | rfl),(by first | exact eJ | rfl)⟩ ?_ ?_
    · first | clear hd hHs e0 e1 e4 eI eJ | clear hd hHs
      rintro m ρ H2 ⟨hm2,heq2,hd,hHs,e0,e1,e4,eI,eJ⟩;have hL2:=hd.lowS hLB
      by_cases hij:i2 ≤ m
      case neg =>
        have hn:¬ (i2:Int) ≤ (m:Int):=by omega
        have hun:Sort.scanDown (fun x => lt dq[lo]! x) dq i2 m = m:=by
          cases m with
          | zero => rfl
          | succ m => rw [Sort.scanDown,if_neg (by simp; omega)]
        have hfin:Sort.scanDown (fun x => lt dq[lo]! x) dq i2 jq = m:=heq2.trans hun
        clear heq2 hun
        repeat' (first | simp only [↓Zaca,↓Zabv,↓Zabx,↓Zabz,↓Zaai,↓Zabu,↓Zabw,↓Zacw,↓Zacv,↓Zaco,↓Zaak,↓Zacj,↓Zack,↓Zaci,↓Zace,↓Zach,↓Zacn,↓Zadb,↓Zaaz,↓Zaau,↓Zaam,↓Zaav,↓Zaat,↓Zaan,↓Zaar,↓Zaay,↓bxPut,↓Zabs,↓Zabr,↓Zaag,↓Zaaf,↓Zabk,↓Zabj,↓Zadc,↓Zabg,↓Zabe,↓dstAt,↓Zabh,Zabd,Zacx,Zaae,Zabi,Zaac,Zacr,Zact,↓reduceIte,Nat.reduceEqDiff,Nat.reduceLT,dec_F,true_and, *] | (with_reducible first | refine Zacd (by assumption) (by decide +kernel) ?_ | refine Zacc (by decide +kernel) ?_ | refine Zacm (by decide +kernel) ?_ | refine Zacf ?_))
        exact ⟨m,rfl,hm2,rfl⟩
      have hp:(i2:Int) ≤ (m:Int):=by omega
      cases m with
      | zero => exact absurd hij (by omega)
      | succ m =>
      have hun:Sort.scanDown (fun x => lt dq[lo]! x) dq i2 (m + 1) = if (i2 ≤ m + 1 && (fun x => lt dq[lo]! x) dq[m + 1]!) = true then Sort.scanDown (fun x => lt dq[lo]! x) dq i2 m else m + 1:=by rw [Sort.scanDown]
      have hFi:m + 1 < (dq).size:=by omega
      have hwi:IntKind.i64.wrap (((m + 1:Nat):Int) - 1) = (m:Int):=by rw [IntWalk.i64_in _ (by omega)]; omega
      have hix0:Zaaa Try.prog 35 (.slice (some ⟨r,0,none⟩) d.size c) (.int .i64 (lo:Int)) = _:=ixAtP (by omega)
      have hix1:Zaaa Try.prog 35 (.slice (some ⟨r,0,none⟩) d.size c) (.int .i64 ((m + 1:Nat):Int)) = _:=ixAtP (by omega)
      have l0:=ldAtP hd (show lo < (dq).size by omega)
      have l1:=ldAtP hd hFi;have hcx:=cmpDP hc hLB hd hV (show lo < (dq).size by omega) (show (m + 1) < (dq).size by omega)
      obtain ⟨z,Hb,H5,hz,f5,g5,hd5,hs5,hL5⟩:=hcx;have hHs5:H.size ≤ H5.size:=Nat.le_trans hHs hs5;have hcs:lt (dq)[lo]! (dq)[(m + 1)]! = true ∨ lt (dq)[lo]! (dq)[(m + 1)]! = false:=by cases lt (dq)[lo]! (dq)[(m + 1)]! <;> simp
      rcases hcs with hl5 | hl5
      · rw [hl5] at hz;rw [if_pos (by simp; exact ⟨hij,by first | exact hl5 | (rw [hl5])⟩)] at hun
        have hfin:Sort.scanDown (fun x => lt dq[lo]! x) dq i2 jq = Sort.scanDown (fun x => lt dq[lo]! x) dq i2 m:=heq2.trans hun
        clear heq2 hun hd
        repeat' (first | simp only [↓Zaca,↓Zabv,↓Zabx,↓Zabz,↓Zaai,↓Zabu,↓Zabw,↓Zacw,↓Zacv,↓Zaco,↓Zaak,↓Zacj,↓Zack,↓Zaci,↓Zace,↓Zach,↓Zacn,↓Zadb,↓Zaaz,↓Zaau,↓Zaam,↓Zaav,↓Zaat,↓Zaan,↓Zaar,↓Zaay,↓bxPut,↓Zabs,↓Zabr,↓Zaag,↓Zaaf,↓Zabk,↓Zabj,↓Zadc,↓Zabg,↓Zabe,↓dstAt,↓Zabh,Zabd,Zacx,Zaae,Zabi,Zaad,Zacb,Zacs,Zacu,List.map,↓reduceIte,Nat.reduceEqDiff,Nat.reduceLT,dec_T,true_and,Zaab, *] | (with_reducible first | refine Zacd (by assumption) (by decide +kernel) ?_ | refine Zacc (by decide +kernel) ?_ | refine Zacm (by decide +kernel) ?_ | refine Zacf ?_))
        exact ⟨m,Nat.lt_succ_self m,by omega,Eq.refl _,rfl⟩
      · rw [hl5] at hz;rw [if_neg (by simp; intro _; first | exact hl5 | (rw [hl5]) | (rw [hl5]; decide))] at hun
        have hfin:Sort.scanDown (fun x => lt dq[lo]! x) dq i2 jq = m + 1:=heq2.trans hun
        clear heq2 hun hd
        repeat' (first | simp only [↓Zaca,↓Zabv,↓Zabx,↓Zabz,↓Zaai,↓Zabu,↓Zabw,↓Zacw,↓Zacv,↓Zaco,↓Zaak,↓Zacj,↓Zack,↓Zaci,↓Zace,↓Zach,↓Zacn,↓Zadb,↓Zaaz,↓Zaau,↓Zaam,↓Zaav,↓Zaat,↓Zaan,↓Zaar,↓Zaay,↓bxPut,↓Zabs,↓Zabr,↓Zaag,↓Zaaf,↓Zabk,↓Zabj,↓Zadc,↓Zabg,↓Zabe,↓dstAt,↓Zabh,Zabd,Zacx,Zaae,Zabi,Zaad,Zacb,Zacs,Zact,List.map,↓reduceIte,Nat.reduceEqDiff,Nat.reduceLT,dec_T,true_and,Zaab, *] | (with_reducible first | refine Zacd (by assumption) (by decide +kernel) ?_ | refine Zacc (by decide +kernel) ?_ | refine Zacm (by decide +kernel) ?_ | refine Zacf ?_))
        exact ⟨m + 1,rfl,hm2,rfl⟩
    first | clear hd hHs e0 e1 e4 eI eJ | clear hd hHs
    rintro ρ H2 ⟨j2,hj2,hj21,hd,hHs,e0,e1,e4,eI,eJ⟩;rw [Sort.partEqLoop_eq,hi2,hj2] at hD
    by_cases hgt:i2 > j2
    · have hgt':(j2:Int) < (i2:Int):=by omega
      rw [if_pos hgt] at hD;clear hi2 hj2
      repeat' simp only [↓bxPut,↓Zabs,↓Zaaf,↓Zadc,Zacx,Zaae,Zabi,Zacu,↓reduceIte,Nat.reduceEqDiff,Nat.reduceLT,dec_T,true_and, *]
      exact ⟨i2,dq,Eq.refl _,hd,rfl⟩
    have hgt':¬ (j2:Int) < (i2:Int):=by omega
    rw [if_neg hgt] at hD;have hL1:=hd.lowS hLB;have hFa:i2 < (dq).size:=by omega
    have hFb:j2 < (dq).size:=by omega
    have hix0:Zaaa Try.prog 35 (.slice (some ⟨r,0,none⟩) d.size c) (.int .i64 (((i2:Nat)):Int)) = _:=ixAtP (by omega)
    have hix1:Zaaa Try.prog 35 (.slice (some ⟨r,0,none⟩) d.size c) (.int .i64 (((j2:Nat)):Int)) = _:=ixAtP (by omega)
    have l0:=ldAtP hd hFa;have l1:=ldAtP hd hFb;have hsw:=swDP hLB hd hFa hFb;obtain ⟨H6,H7,H8,H9,hs6,he6,hs7,he7,hd7,hz7,hL9,hL7⟩:=hsw;have hV7:=hV.swp hFa hFb;have hsz7:=(swp_szP dq i2 j2).trans hsz;have hHs9:H.size ≤ H9.size:=by rw [hz7]; exact hHs
    have hwi2:IntKind.i64.wrap ((i2:Int) + 1) = ((i2 + 1:Nat):Int):=by rw [IntWalk.i64_in _ (by omega)]; omega
    have hwj2:IntKind.i64.wrap ((j2:Int) - 1) = ((j2 - 1:Nat):Int):=by rw [IntWalk.i64_in _ (by omega)]; omega
    have hms:j2 - 1 < d.size:=by omega
    have hms2:i2 + 1 ≤ d.size:=by omega
    have hmm:j2 - 1 + 1 - (i2 + 1) < jq + 1 - iq:=by omega
    clear hi2 hj2 hd hV hsz
    repeat' (first | simp only [↓Zacn,↓bxPut,↓Zabs,↓Zaaf,↓Zadc,Zacx,Zaae,Zabi,Zact,↓reduceIte,Nat.reduceEqDiff,Nat.reduceLT,dec_F,true_and,Zaab, *] | (with_reducible first | refine Zacd (by assumption) (by decide +kernel) ?_ | refine Zacc (by decide +kernel) ?_ | refine Zacm (by decide +kernel) ?_ | refine Zacf ?_))
    exact ⟨j2 - 1 + 1 - (i2 + 1),hmm,i2 + 1,j2 - 1,Sort.swp dq i2 j2,rfl,Eq.refl _,by omega,hms2,hms,hsz7,hV7,hd7,rfl,rfl⟩
  clear hd hV hsz hHs hD hwi hwj hL7 hL9;rintro ρ H2 ⟨i,dq,hD,hd,hHs,e11⟩;have hpost:PostEP HB b r k D H (.int .i64 (i:Int)) H2:=by rw [hD]; exact ⟨rfl,hd,hHs⟩
  clear hD
  repeat' simp only [↓bxPut,↓Zabs,↓Zaaf,↓Zadc,↓reduceIte,Nat.reduceLT, *]
end Go.Proofs.Yteechkbnccpicaa
