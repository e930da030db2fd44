/- Insertion sort. -/
import Derived.Test.YteechkbnccpicaaS1P
set_option linter.unusedVariables false
set_option linter.unusedSimpArgs false
set_option linter.unusedSectionVars false

namespace Go.Proofs.Yteechkbnccpicaa
open Go Go.AM
set_option maxRecDepth 10000
def PostIP (HB:Base) (b r:Nat) (k:Bool) (lt:(Int × Int) → (Int × Int) → Bool) (d:Array (Int × Int)) (lo hi:Nat) (H H':Heap):Prop:=SaP HB H' b r k (Sort.insertionSort lt d lo hi) ∧ H.size ≤ H'.size

variable {S:AM.Sys} (hS:Only S 11) {g:FuncId} {pre cs:List Value} {HB:Base} {V:(Int × Int) → Prop} {lt:(Int × Int) → (Int × Int) → Bool} (hc:CmpP S g pre cs HB V lt) (hLB:HB.low ≤ HB.size) {b r c:Nat} {k:Bool}
include hS hc hLB

set_option maxHeartbeats 2000000 in
theorem insP_runs (d:Array (Int × Int)) (lo hi:Nat) (H:Heap) (hd:SaP HB H b r k d) (hV:AllP V d) (h1:lo ≤ hi) (h2:hi ≤ d.size) (hm:d.size ≤ 100000000) :
    ∃ u H',Runs Try.prog S (.fn 96) [.slice (some ⟨r,0,none⟩) d.size c,.int .i64 (lo:Int),.int .i64 (hi:Int),.func (.func g) ⟨pre⟩ ⟨cs⟩] H u H' ∧ PostIP HB b r k lt d lo hi H H':=by
  suffices h:WCall Try.prog S (.fn 96) [.slice (some ⟨r,0,none⟩) d.size c,.int .i64 (lo:Int),.int .i64 (hi:Int),.func (.func g) ⟨pre⟩ ⟨cs⟩] H (fun u H' => PostIP HB b r k lt d lo hi H H') by
    obtain ⟨u,H',hr,h⟩:=h; exact ⟨u,H',hr,h⟩
  have hmx:Go.maxLen = 9223372036854775807:=rfl;have hw0:IntKind.i64.wrap ((lo:Int) + 1) = ((lo + 1:Nat):Int):=wrap_succ (n:=lo + 1) (by omega) (by omega)
  refine Zaba Try.func96 rfl (Nat.le_of_ble_eq_true rfl) (hS.no rfl _ _) ?_
  rw [Try.ntmps96,Try.results96]
  repeat' simp only [↓Zabx,↓Zabz,↓Zaaj,↓Zabu,↓Zacw,↓Zacv,↓Zadb,↓Zaau,↓Zaam,↓Zaan,↓bxPut,↓Zabs,↓Zadc,↓Zabg,↓Zabe,Zacx,Zaae,Zabi,↓reduceIte,Nat.reduceLT, *,argF,List.getD_cons_zero,List.getD_cons_succ]
  refine sxL_of (fun m ρ H1 => ∃ (i:Nat) (d1:Array (Int × Int)),m = hi - i ∧ lo + 1 ≤ i ∧ Sort.insertionSort lt d lo hi = Sort.insOuter lt lo hi i d1 ∧ SaP HB H1 b r k d1 ∧ AllP V d1 ∧ d1.size = d.size ∧ H.size ≤ H1.size ∧
      ρ 0 = .slice (some ⟨r,0,none⟩) d.size c ∧ ρ 1 = .int .i64 (lo:Int) ∧ ρ 2 = .int .i64 (hi:Int) ∧ ρ 3 = .func (.func g) ⟨pre⟩ ⟨cs⟩ ∧ ρ 8 = .int .i64 (i:Int))
    ⟨lo + 1,d,rfl,Nat.le_refl _,rfl,hd,hV,rfl,Nat.le_refl _,rfl,rfl,rfl,rfl,rfl⟩ ?_
  clear hd hV;rintro m ρ H1 ⟨i,d1,rfl,hi0,heq,hd,hV,hsz,hHs,e0,e1,e2,e3,e8⟩;rw [Sort.insOuter] at heq
  by_cases hlt:i < hi
  case neg =>
    have hlt':¬ (i:Int) < (hi:Int):=by omega
    rw [if_neg hlt] at heq;have hpost:PostIP HB b r k lt d lo hi H H1:=by
      unfold PostIP;rw [heq];exact ⟨hd,hHs⟩
    clear heq hlt
    repeat' simp only [↓Zaca,↓Zabx,↓Zabz,↓Zaai,↓Zaaj,↓Zabu,↓Zabw,↓Zacw,↓Zacv,↓Zadb,↓Zaau,↓Zaam,↓Zaan,↓bxPut,↓Zabs,↓Zabr,↓Zaaf,↓Zabk,↓Zabj,↓Zabp,↓Zacz,↓Zadc,↓Zabg,↓Zabe,Zacx,Zaae,Zabi,Zact,↓reduceIte,Nat.reduceEqDiff,Nat.reduceLT,dec_F, *]
  have hlt':(i:Int) < (hi:Int):=by omega
  rw [if_pos hlt] at heq;have hwi:=wrap_succ hlt (by omega:hi ≤ Go.maxLen)
  repeat' simp only [↓Zaca,↓Zabx,↓Zabz,↓Zaai,↓Zaaj,↓Zabu,↓Zabw,↓Zacw,↓Zacv,↓Zadb,↓Zaau,↓Zaam,↓Zaan,↓bxPut,↓Zabs,↓Zabr,↓Zaaf,↓Zabk,↓Zabj,↓Zabp,↓Zacz,↓Zadc,↓Zabg,↓Zabe,Zacx,Zaae,Zabi,Zacu,↓reduceIte,Nat.reduceEqDiff,Nat.reduceLT,dec_T, *]
  refine sxL_of (fun m ρ H2 => ∃ (j:Nat) (d2:Array (Int × Int)),m = j ∧ j ≤ i ∧ Sort.insInner lt lo i d1 = Sort.insInner lt lo j d2 ∧ SaP HB H2 b r k d2 ∧ AllP V d2 ∧ d2.size = d.size ∧ H.size ≤ H2.size ∧
      ρ 0 = .slice (some ⟨r,0,none⟩) d.size c ∧ ρ 1 = .int .i64 (lo:Int) ∧ ρ 2 = .int .i64 (hi:Int) ∧ ρ 3 = .func (.func g) ⟨pre⟩ ⟨cs⟩ ∧ ρ 8 = .int .i64 (i:Int) ∧ ρ 9 = .int .i64 (j:Int))
    ⟨i,d1,rfl,Nat.le_refl _,rfl,hd,hV,hsz,hHs,e0,e1,e2,e3,e8,rfl⟩ ?_
  clear hd hV e0 e1 e2 e3 e8 hHs hsz ρ;rintro m ρ H2 ⟨j,d2,rfl,hj,heq2,hd,hV,hsz,hHs,e0,e1,e2,e3,e8,e9⟩;have hL2:=hd.keep.low hLB;cases m with
  | zero =>
    have hn:¬ (lo:Int) < ((0:Nat):Int):=by omega
    have hin:Sort.insInner lt lo 0 d2 = d2:=rfl;rw [heq2,hin] at heq;clear heq2 hin
    repeat' (first | simp only [↓Zaca,↓Zabv,↓Zabx,↓Zabz,↓Zaai,↓Zabu,↓Zabw,↓Zacw,↓Zacv,↓Zaco,↓Zaak,↓Zacj,↓Zack,↓Zaci,↓Zace,↓Zach,↓Zacn,↓Zadb,↓Zaaz,↓Zaau,↓Zaam,↓Zaav,↓Zaat,↓Zaaw,↓Zaan,↓Zaar,↓Zaay,↓Zacy,↓bxPut,↓Zabs,↓Zabr,↓Zaag,↓Zaaf,↓Zabk,↓Zabj,↓Zabp,↓Zacz,↓Zadc,↓Zabg,↓Zabe,↓dstAt,↓Zabh,Zacx,Zaae,Zabi,Zaac,Zacr,Zact,↓reduceIte,Nat.reduceEqDiff,Nat.reduceLT,dec_F,true_and, *] | (with_reducible first | refine Zacd (by assumption) (by decide +kernel) ?_ | refine Zacc (by decide +kernel) ?_ | refine Zacm (by decide +kernel) ?_ | refine Zacf ?_))
    exact ⟨hi - (i + 1),by omega,i + 1,d2,rfl,by omega,rfl,hd,hV,hsz,rfl⟩
  | succ j =>
  have hin:Sort.insInner lt lo (j + 1) d2 = if j + 1 > lo && lt d2[j + 1]! d2[j]! then Sort.insInner lt lo j (Sort.swp d2 (j + 1) j) else d2:=rfl
  have hj1:j + 1 < d2.size:=by omega
  have hj0:j < d2.size:=by omega
  have hwj:IntKind.i64.wrap (((j + 1:Nat):Int) - 1) = (j:Int):=by rw [IntWalk.i64_in _ (by omega)]; omega
  by_cases hjl:lo < j + 1
  case neg =>
    have hn:¬ (lo:Int) < ((j + 1:Nat):Int):=by omega
    rw [if_neg (by simp; omega)] at hin
    rw [heq2,hin] at heq;clear heq2 hin
    repeat' (first | simp only [↓Zaca,↓Zabv,↓Zabx,↓Zabz,↓Zaai,↓Zabu,↓Zabw,↓Zacw,↓Zacv,↓Zaco,↓Zaak,↓Zacj,↓Zack,↓Zaci,↓Zace,↓Zach,↓Zacn,↓Zadb,↓Zaaz,↓Zaau,↓Zaam,↓Zaav,↓Zaat,↓Zaaw,↓Zaan,↓Zaar,↓Zaay,↓Zacy,↓bxPut,↓Zabs,↓Zabr,↓Zaag,↓Zaaf,↓Zabk,↓Zabj,↓Zabp,↓Zacz,↓Zadc,↓Zabg,↓Zabe,↓dstAt,↓Zabh,Zacx,Zaae,Zabi,Zaac,Zacr,Zact,↓reduceIte,Nat.reduceEqDiff,Nat.reduceLT,dec_F,true_and, *] | (with_reducible first | refine Zacd (by assumption) (by decide +kernel) ?_ | refine Zacc (by decide +kernel) ?_ | refine Zacm (by decide +kernel) ?_ | refine Zacf ?_))
    exact ⟨hi - (i + 1),by omega,i + 1,d2,rfl,by omega,rfl,hd,hV,hsz,rfl⟩
  have hjl':(lo:Int) < ((j + 1:Nat):Int):=by omega
  have hix1:Zaaa Try.prog 35 (.slice (some ⟨r,0,none⟩) d.size c) (.int .i64 ((j + 1:Nat):Int)) = _:=ixAtP (by omega)
  have hix0:Zaaa Try.prog 35 (.slice (some ⟨r,0,none⟩) d.size c) (.int .i64 (j:Int)) = _:=ixAtP (by omega)
  have hl1:=ldAtP hd hj1;have hl0:=ldAtP hd hj0;have hcc:=hc (H2.relow H2.size) d2[j + 1]! d2[j]! (hd.keep.trans (Keep.relowS H2)) (hV _ hj1) (hV _ hj0);obtain ⟨z,H3,hK3,hz,hR3⟩:=hcc;have hdr:=drawn (hd.keep.low hLB) ⟨H3,hK3,hR3⟩;obtain ⟨H4,H5,hK5,hL5,f5,hd5⟩:=hdr;have hd':=hd.kept hK5
  by_cases hzl:lt d2[j + 1]! d2[j]! = true
  · have hz':decide (z < 0) = true:=decide_eq_true (hz.2 hzl);rw [if_pos (by simp; exact ⟨by omega,hzl⟩)] at hin
    rw [hin] at heq2;have hsw:=swDP hLB hd' hj1 hj0;obtain ⟨H6,H7,H8,H9,hs6,he6,hs7,he7,hd7,hz7,hL9,hL7⟩:=hsw;have hK5s:=hK5.size;have hl15:=ldAtP hd' hj1;have hl05:=ldAtP hd' hj0;have hV7:=hV.swp hj1 hj0;have hsz7:=(swp_szP d2 (j + 1) j).trans hsz;clear hin hz hR3 hd hV hd' hzl hK3 heq
    repeat' (first | simp only [↓Zaca,↓Zabv,↓Zabx,↓Zabz,↓Zaai,↓Zabu,↓Zabw,↓Zacw,↓Zacv,↓Zaco,↓Zaak,↓Zacj,↓Zack,↓Zaci,↓Zace,↓Zach,↓Zacn,↓Zadb,↓Zaaz,↓Zaau,↓Zaam,↓Zaav,↓Zaat,↓Zaaw,↓Zaan,↓Zaar,↓Zaay,↓Zacy,↓bxPut,↓Zabs,↓Zabr,↓Zaag,↓Zaaf,↓Zabk,↓Zabj,↓Zabp,↓Zacz,↓Zadc,↓Zabg,↓Zabe,↓dstAt,↓Zabh,Zacx,Zaae,Zabi,Zaad,Zacb,Zacs,Zacu,List.map,↓reduceIte,Nat.reduceEqDiff,Nat.reduceLT,dec_T,true_and,Zaab, *] | (with_reducible first | refine Zacd (by assumption) (by decide +kernel) ?_ | refine Zacc (by decide +kernel) ?_ | refine Zacm (by decide +kernel) ?_ | refine Zacf ?_))
    have hfin:Sort.insInner lt lo j (Sort.swp d2 (j + 1) j) = Sort.insInner lt lo j (Sort.swp d2 (j + 1) j):=Eq.refl _;exact ⟨j,Nat.lt_succ_self j,j,Sort.swp d2 (j + 1) j,rfl,Nat.le_of_succ_le hj,hfin,hd7,hV7,hsz7,Nat.le_trans hHs hK5s,rfl⟩
  · have hz':decide (z < 0) = false:=decide_eq_false fun h => hzl (hz.1 h)
    rw [if_neg (by simp; intro _; simpa using hzl)] at hin
    rw [heq2,hin] at heq;have hK5s:=hK5.size;have hHs':H.size ≤ H5.size:=by omega
    clear heq2 hin hz hR3 hd hzl hK3
    repeat' (first | simp only [↓Zaca,↓Zabv,↓Zabx,↓Zabz,↓Zaai,↓Zabu,↓Zabw,↓Zacw,↓Zacv,↓Zaco,↓Zaak,↓Zacj,↓Zack,↓Zaci,↓Zace,↓Zach,↓Zacn,↓Zadb,↓Zaaz,↓Zaau,↓Zaam,↓Zaav,↓Zaat,↓Zaaw,↓Zaan,↓Zaar,↓Zaay,↓Zacy,↓bxPut,↓Zabs,↓Zabr,↓Zaag,↓Zaaf,↓Zabk,↓Zabj,↓Zabp,↓Zacz,↓Zadc,↓Zabg,↓Zabe,↓dstAt,↓Zabh,Zacx,Zaae,Zabi,Zaad,Zacb,Zacs,Zact,List.map,↓reduceIte,Nat.reduceEqDiff,Nat.reduceLT,dec_T,true_and,Zaab, *] | (with_reducible first | refine Zacd (by assumption) (by decide +kernel) ?_ | refine Zacc (by decide +kernel) ?_ | refine Zacm (by decide +kernel) ?_ | refine Zacf ?_))
    exact ⟨hi - (i + 1),by omega,i + 1,d2,rfl,by omega,rfl,hd',hV,hsz,rfl⟩
end Go.Proofs.Yteechkbnccpicaa

namespace Go.Proofs.Yteechkbnccpicaa
open Go Go.AM
set_option maxRecDepth 10000
theorem siftP_eq (lt:(Int × Int) → (Int × Int) → Bool) (hi F root:Nat) (d:Array (Int × Int)):Sort.siftDown lt hi F root d =
    if 2 * root + 1 ≥ hi then d else
      if 2 * root + 2 < hi ∧ lt d[F + (2 * root + 1)]! d[F + (2 * root + 2)]! = true then (if lt d[F + root]! d[F + (2 * root + 2)]! = true then Sort.siftDown lt hi F (2 * root + 2) (Sort.swp d (F + root) (F + (2 * root + 2))) else d)
      else (if lt d[F + root]! d[F + (2 * root + 1)]! = true then Sort.siftDown lt hi F (2 * root + 1) (Sort.swp d (F + root) (F + (2 * root + 1))) else d):=by
  rw [Sort.siftDown];have e:F + (2 * root + 1) + 1 = F + (2 * root + 2):=by omega
  have e2:2 * root + 1 + 1 = 2 * root + 2:=by omega
  rw [e,e2];split
  · rfl
  · by_cases hc:2 * root + 2 < hi ∧ lt d[F + (2 * root + 1)]! d[F + (2 * root + 2)]! = true
    · rw [if_pos hc,if_pos (by simpa using hc),dif_pos hc.1]
      cases lt d[F + root]! d[F + (2 * root + 2)]! <;> rfl
    · rw [if_neg hc,if_neg (by simpa using hc)]
      cases lt d[F + root]! d[F + (2 * root + 1)]! <;> rfl
def PostAP (HB:Base) (b r:Nat) (k:Bool) (d:Array (Int × Int)) (H H':Heap):Prop:=SaP HB H' b r k d ∧ H.size ≤ H'.size
theorem sift_szP (lt:(Int × Int) → (Int × Int) → Bool) (hi F:Nat):∀ (n root:Nat) (d:Array (Int × Int)),hi - root ≤ n → (Sort.siftDown lt hi F root d).size = d.size:=by
  intro n
  induction n with
  | zero =>
    intro root d h;rw [siftP_eq,if_pos (by omega)]
  | succ n ih =>
    intro root d h;rw [siftP_eq];split
    · rfl
    · split
      · split
        · rw [ih _ _ (by omega),swp_szP]
        · rfl
      · split
        · rw [ih _ _ (by omega),swp_szP]
        · rfl
theorem sift_allP {V:(Int × Int) → Prop} (lt:(Int × Int) → (Int × Int) → Bool) (hi F:Nat):∀ (n root:Nat) (d:Array (Int × Int)),hi - root ≤ n → F + hi ≤ d.size → AllP V d → AllP V (Sort.siftDown lt hi F root d):=by
  intro n
  induction n with
  | zero =>
    intro root d h _ hV;rw [siftP_eq,if_pos (by omega)]
    exact hV
  | succ n ih =>
    intro root d h hs hV;rw [siftP_eq];split
    · exact hV
    · split
      · split
        · exact ih _ _ (by omega) (by rw [swp_szP]; exact hs) (hV.swp (by omega) (by omega))
        · exact hV
      · split
        · exact ih _ _ (by omega) (by rw [swp_szP]; exact hs) (hV.swp (by omega) (by omega))
        · exact hV

variable {S:AM.Sys} (hS:Only S 11) {g:FuncId} {pre cs:List Value} {HB:Base} {V:(Int × Int) → Prop} {lt:(Int × Int) → (Int × Int) → Bool} (hc:CmpP S g pre cs HB V lt) (hLB:HB.low ≤ HB.size) {b r c:Nat} {k:Bool}
include hS hc hLB

set_option maxHeartbeats 2000000 in
theorem siftP_runs (d:Array (Int × Int)) (lo hi F:Nat) (H:Heap) (hd:SaP HB H b r k d) (hV:AllP V d) (h2:F + hi ≤ d.size) (hlo:lo ≤ d.size) (hm:d.size ≤ 100000000) :
    ∃ u H',Runs Try.prog S (.fn 111) [.slice (some ⟨r,0,none⟩) d.size c,.int .i64 (lo:Int),.int .i64 (hi:Int),.int .i64 (F:Int),.func (.func g) ⟨pre⟩ ⟨cs⟩] H u H' ∧ PostAP HB b r k (Sort.siftDown lt hi F lo d) H H':=by
  suffices h:WCall Try.prog S (.fn 111) [.slice (some ⟨r,0,none⟩) d.size c,.int .i64 (lo:Int),.int .i64 (hi:Int),.int .i64 (F:Int),.func (.func g) ⟨pre⟩ ⟨cs⟩] H (fun u H' => PostAP HB b r k (Sort.siftDown lt hi F lo d) H H') by
    obtain ⟨u,H',hr,h⟩:=h; exact ⟨u,H',hr,h⟩
  have hmx:Go.maxLen = 9223372036854775807:=rfl;refine Zaba Try.func111 rfl (Nat.le_of_ble_eq_true rfl) (hS.no rfl _ _) ?_
  rw [Try.ntmps111,Try.results111];have hgo:∃ D,D = Sort.siftDown lt hi F lo d:=⟨_,rfl⟩;obtain ⟨D,hD⟩:=hgo;rw [← hD]
  repeat' simp only [↓Zabx,↓Zabz,↓Zaaj,↓Zabu,↓Zacw,↓Zacv,↓Zadb,↓Zaau,↓Zaam,↓bxPut,↓Zabs,↓Zadc,↓Zabg,↓reduceIte,Nat.reduceLT, *,argF,List.getD_cons_zero,List.getD_cons_succ]
  refine sxL_of (fun m ρ H1 => ∃ (root:Nat) (d1:Array (Int × Int)),m = d.size - root ∧ root ≤ d.size ∧ D = Sort.siftDown lt hi F root d1 ∧ SaP HB H1 b r k d1 ∧ AllP V d1 ∧ d1.size = d.size ∧ H.size ≤ H1.size ∧
      ρ 0 = .slice (some ⟨r,0,none⟩) d.size c ∧ ρ 2 = .int .i64 (hi:Int) ∧ ρ 3 = .int .i64 (F:Int) ∧ ρ 4 = .func (.func g) ⟨pre⟩ ⟨cs⟩ ∧ ρ 10 = .int .i64 (root:Int))
    ⟨lo,d,rfl,hlo,hD,hd,hV,rfl,Nat.le_refl _,rfl,rfl,rfl,rfl,rfl⟩ ?_
  clear hd hV hD;rintro m ρ H1 ⟨root,d1,rfl,hrt,heq,hd,hV,hsz,hHs,e0,e2,e3,e4,e10⟩;rw [siftP_eq] at heq;have hL1:=hd.lowS hLB;have hc1g:∃ c1,c1 = 2 * root + 1:=⟨_,rfl⟩;obtain ⟨c1,hc1⟩:=hc1g;have hwA:IntKind.i64.wrap (IntKind.i64.wrap (2 * (root:Int)) + 1) = (c1:Int):=by rw [IntWalk.i64_in (2 * (root:Int)) (by omega),IntWalk.i64_in _ (by omega)]; omega
  have hwB:IntKind.i64.wrap ((c1:Int) + 1) = ((c1 + 1:Nat):Int):=by rw [IntWalk.i64_in _ (by omega)]; omega
  have hc2:2 * root + 2 = c1 + 1:=by omega
  rw [← hc1,hc2] at heq
  by_cases hge:c1 ≥ hi
  · have hge':(hi:Int) ≤ (c1:Int):=by omega
    rw [if_pos hge] at heq;have hpost:PostAP HB b r k D H H1:=by rw [heq]; exact ⟨hd,hHs⟩
    clear heq hge hd hc1
    repeat' (first | simp only [↓Zaca,↓Zabv,↓Zabx,↓Zabz,↓Zaai,↓Zabu,↓Zabw,↓Zaby,↓Zacw,↓Zacv,↓Zaco,↓Zaak,↓Zacj,↓Zack,↓Zaci,↓Zace,↓Zacl,↓Zach,↓Zadb,↓Zaaz,↓Zaau,↓Zaam,↓Zaav,↓Zaat,↓Zaaw,↓Zaan,↓Zaax,↓Zaar,↓Zaay,↓Zacy,↓bxPut,↓Zabs,↓Zabr,↓Zabt,↓Zaag,↓Zaah,↓Zaaf,↓Zabk,↓Zabj,↓Zabl,↓Zabp,↓Zabq,↓Zacz,↓Zadc,↓Zabg,↓Zabe,↓dstAt,↓Zabh,Zacx,Zaae,Zabi,Zacu,↓reduceIte,Nat.reduceEqDiff,Nat.reduceLT,dec_T, *] | (with_reducible first | refine Zacd (by assumption) (by decide +kernel) ?_ | refine Zacc (by decide +kernel) ?_ | refine Zacm (by decide +kernel) ?_ | refine Zacf ?_))
  have hge':¬ (hi:Int) ≤ (c1:Int):=by omega
  rw [if_neg hge] at heq;have hF0:F + root < d1.size:=by omega
  have hF1:F + c1 < d1.size:=by omega
  have hwF0:IntKind.i64.wrap ((F:Int) + (root:Int)) = ((F + root:Nat):Int):=by rw [IntWalk.i64_in _ (by omega)]; omega
  have hwF1:IntKind.i64.wrap ((F:Int) + (c1:Int)) = ((F + c1:Nat):Int):=by rw [IntWalk.i64_in _ (by omega)]; omega
  have hwF2:IntKind.i64.wrap (((F + c1:Nat):Int) + 1) = ((F + (c1 + 1):Nat):Int):=by rw [IntWalk.i64_in _ (by omega)]; omega
  have hwF3:IntKind.i64.wrap ((F:Int) + ((c1 + 1:Nat):Int)) = ((F + (c1 + 1):Nat):Int):=by rw [IntWalk.i64_in _ (by omega)]; omega
  have hix0:Zaaa Try.prog 35 (.slice (some ⟨r,0,none⟩) d.size c) (.int .i64 ((F + root:Nat):Int)) = _:=ixAtP (by omega)
  have hix1:Zaaa Try.prog 35 (.slice (some ⟨r,0,none⟩) d.size c) (.int .i64 ((F + c1:Nat):Int)) = _:=ixAtP (by omega)
  by_cases hlt2:c1 + 1 < hi
  case neg =>
    have hn2:¬ ((c1 + 1:Nat):Int) < (hi:Int):=by omega
    rw [if_neg (fun h => hlt2 h.1)] at heq
    have l0:=ldAtP hd hF0;have l1:=ldAtP hd hF1;have hcx:=cmpDP hc hLB (show SaP HB H1 b r k d1 from by assumption) hV hF0 hF1
    obtain ⟨z,Hb,H5,hz,f5,g5,hd5,hs5,hL5⟩:=hcx;have hHs5:H.size ≤ H5.size:=Nat.le_trans (show H.size ≤ H1.size from by assumption) hs5
    cases hl5:lt d1[F + root]! d1[F + (c1)]! with
    | true =>
      rw [hl5] at hz;rw [if_pos hl5] at heq;have hsw:=swDP hLB hd5 hF0 hF1;obtain ⟨H6,H7,H8,H9,hs6,he6,hs7,he7,hd7,hz7,hL9,hL7⟩:=hsw;have l05:=ldAtP hd5 hF0;have l15:=ldAtP hd5 hF1;have hV7:=hV.swp hF0 hF1;have hsz7:=(swp_szP d1 (F + root) (F + (c1))).trans hsz;have hHs9:H.size ≤ H9.size:=by rw [hz7]; exact hHs5
      have hms:d.size - (c1) < d.size - root:=by omega
      have hle:c1 ≤ d.size:=by omega
      have hD:D = D:=Eq.refl _;clear hc1 hc2 hd5 hl5
      repeat' (first | simp only [↓Zaca,↓Zabv,↓Zabx,↓Zabz,↓Zaai,↓Zabu,↓Zabw,↓Zaby,↓Zacw,↓Zacv,↓Zaco,↓Zaak,↓Zacj,↓Zack,↓Zaci,↓Zace,↓Zacl,↓Zach,↓Zacn,↓Zadb,↓Zaaz,↓Zaau,↓Zaam,↓Zaav,↓Zaat,↓Zaaw,↓Zaan,↓Zaax,↓Zaar,↓Zaay,↓Zacy,↓bxPut,↓Zabs,↓Zabr,↓Zabt,↓Zaag,↓Zaah,↓Zaaf,↓Zabk,↓Zabj,↓Zabl,↓Zabp,↓Zabq,↓Zacz,↓Zadc,↓Zabg,↓Zabe,↓dstAt,↓Zabh,Zacx,Zaae,Zabi,una_nt,Zaac,Zacb,Zacr,Zact,List.map,↓reduceIte,Nat.reduceEqDiff,Nat.reduceLT,dec_F,true_and,Zaab, *] | (with_reducible first | refine Zacd (by assumption) (by decide +kernel) ?_ | refine Zacc (by decide +kernel) ?_ | refine Zacm (by decide +kernel) ?_ | refine Zacf ?_))
      exact ⟨d.size - (c1),hms,c1,Sort.swp d1 (F + root) (F + (c1)),rfl,hle,Eq.refl _,hd7,hV7,hsz7,rfl⟩
    | false =>
      rw [hl5] at hz;rw [if_neg (by rw [hl5]; decide)] at heq
      have hpost:PostAP HB b r k D H H5:=by rw [heq]; exact ⟨hd5,hHs5⟩
      clear heq hc1 hc2 hl5
      repeat' (first | simp only [↓Zaca,↓Zabv,↓Zabx,↓Zabz,↓Zaai,↓Zabu,↓Zabw,↓Zaby,↓Zacw,↓Zacv,↓Zaco,↓Zaak,↓Zacj,↓Zack,↓Zaci,↓Zace,↓Zacl,↓Zach,↓Zacn,↓Zadb,↓Zaaz,↓Zaau,↓Zaam,↓Zaav,↓Zaat,↓Zaaw,↓Zaan,↓Zaax,↓Zaar,↓Zaay,↓Zacy,↓bxPut,↓Zabs,↓Zabr,↓Zabt,↓Zaag,↓Zaah,↓Zaaf,↓Zabk,↓Zabj,↓Zabl,↓Zabp,↓Zabq,↓Zacz,↓Zadc,↓Zabg,↓Zabe,↓dstAt,↓Zabh,Zacx,Zaae,Zabi,una_nf,Zaac,Zacb,Zacr,Zacu,Zact,List.map,↓reduceIte,Nat.reduceEqDiff,Nat.reduceLT,dec_F,Zaab, *] | (with_reducible first | refine Zacd (by assumption) (by decide +kernel) ?_ | refine Zacc (by decide +kernel) ?_ | refine Zacm (by decide +kernel) ?_ | refine Zacf ?_))
  have hp2:((c1 + 1:Nat):Int) < (hi:Int):=by omega
  have hF2:F + (c1 + 1) < d1.size:=by omega
  have hix2:Zaaa Try.prog 35 (.slice (some ⟨r,0,none⟩) d.size c) (.int .i64 ((F + (c1 + 1):Nat):Int)) = _:=ixAtP (by omega)
  have m1:=ldAtP hd hF1;have m2:=ldAtP hd hF2;have hcm:=cmpDP hc hLB hd hV hF1 hF2;obtain ⟨zz,Ha,H2,hzz,fa,ga,hd2,hs2,hL2⟩:=hcm;have l0:=ldAtP hd2 hF0;have hHs2:H.size ≤ H2.size:=Nat.le_trans hHs hs2;cases hl:lt d1[F + c1]! d1[F + (c1 + 1)]! with
  | true =>
    rw [hl] at hzz;rw [if_pos ⟨hlt2,hl⟩] at heq;have l1:=ldAtP hd2 hF2;clear hd hHs;have hcx:=cmpDP hc hLB (show SaP HB H2 b r k d1 from by assumption) hV hF0 hF2
    obtain ⟨z,Hb,H5,hz,f5,g5,hd5,hs5,hL5⟩:=hcx;have hHs5:H.size ≤ H5.size:=Nat.le_trans (show H.size ≤ H2.size from by assumption) hs5
    cases hl5:lt d1[F + root]! d1[F + (c1 + 1)]! with
    | true =>
      rw [hl5] at hz;rw [if_pos hl5] at heq;have hsw:=swDP hLB hd5 hF0 hF2;obtain ⟨H6,H7,H8,H9,hs6,he6,hs7,he7,hd7,hz7,hL9,hL7⟩:=hsw;have l05:=ldAtP hd5 hF0;have l15:=ldAtP hd5 hF2;have hV7:=hV.swp hF0 hF2;have hsz7:=(swp_szP d1 (F + root) (F + (c1 + 1))).trans hsz;have hHs9:H.size ≤ H9.size:=by rw [hz7]; exact hHs5
      have hms:d.size - (c1 + 1) < d.size - root:=by omega
      have hle:c1 + 1 ≤ d.size:=by omega
      have hD:D = D:=Eq.refl _;clear hc1 hc2 hd5 hl5
      repeat' (first | simp only [↓Zaca,↓Zabv,↓Zabx,↓Zabz,↓Zaai,↓Zabu,↓Zabw,↓Zaby,↓Zacw,↓Zacv,↓Zaco,↓Zaak,↓Zacj,↓Zack,↓Zaci,↓Zace,↓Zacl,↓Zach,↓Zacn,↓Zadb,↓Zaaz,↓Zaau,↓Zaam,↓Zaav,↓Zaat,↓Zaaw,↓Zaan,↓Zaax,↓Zaar,↓Zaay,↓Zacy,↓bxPut,↓Zabs,↓Zabr,↓Zabt,↓Zaag,↓Zaah,↓Zaaf,↓Zabk,↓Zabj,↓Zabl,↓Zabp,↓Zabq,↓Zacz,↓Zadc,↓Zabg,↓Zabe,↓dstAt,↓Zabh,Zacx,Zaae,Zabi,una_nt,Zaad,Zacb,Zacs,Zacu,Zact,List.map,↓reduceIte,Nat.reduceEqDiff,Nat.reduceLT,dec_T,dec_F,true_and,Zaab, *] | (with_reducible first | refine Zacd (by assumption) (by decide +kernel) ?_ | refine Zacc (by decide +kernel) ?_ | refine Zacm (by decide +kernel) ?_ | refine Zacf ?_))
      exact ⟨d.size - (c1 + 1),hms,c1 + 1,Sort.swp d1 (F + root) (F + (c1 + 1)),rfl,hle,Eq.refl _,hd7,hV7,hsz7,rfl⟩
    | false =>
      rw [hl5] at hz;rw [if_neg (by rw [hl5]; decide)] at heq
      have hpost:PostAP HB b r k D H H5:=by rw [heq]; exact ⟨hd5,hHs5⟩
      clear heq hc1 hc2 hl5
      repeat' (first | simp only [↓Zaca,↓Zabv,↓Zabx,↓Zabz,↓Zaai,↓Zabu,↓Zabw,↓Zaby,↓Zacw,↓Zacv,↓Zaco,↓Zaak,↓Zacj,↓Zack,↓Zaci,↓Zace,↓Zacl,↓Zach,↓Zacn,↓Zadb,↓Zaaz,↓Zaau,↓Zaam,↓Zaav,↓Zaat,↓Zaaw,↓Zaan,↓Zaax,↓Zaar,↓Zaay,↓Zacy,↓bxPut,↓Zabs,↓Zabr,↓Zabt,↓Zaag,↓Zaah,↓Zaaf,↓Zabk,↓Zabj,↓Zabl,↓Zabp,↓Zabq,↓Zacz,↓Zadc,↓Zabg,↓Zabe,↓dstAt,↓Zabh,Zacx,Zaae,Zabi,una_nf,Zaad,Zacb,Zacs,Zacu,Zact,List.map,↓reduceIte,Nat.reduceEqDiff,Nat.reduceLT,dec_T,dec_F,Zaab, *] | (with_reducible first | refine Zacd (by assumption) (by decide +kernel) ?_ | refine Zacc (by decide +kernel) ?_ | refine Zacm (by decide +kernel) ?_ | refine Zacf ?_))
  | false =>
    rw [hl] at hzz;rw [if_neg (fun h => by rw [hl] at h; exact absurd h.2 (by decide))] at heq
    have l1:=ldAtP hd2 hF1;clear hd hHs;have hcx:=cmpDP hc hLB (show SaP HB H2 b r k d1 from by assumption) hV hF0 hF1
    obtain ⟨z,Hb,H5,hz,f5,g5,hd5,hs5,hL5⟩:=hcx;have hHs5:H.size ≤ H5.size:=Nat.le_trans (show H.size ≤ H2.size from by assumption) hs5
    cases hl5:lt d1[F + root]! d1[F + (c1)]! with
    | true =>
      rw [hl5] at hz;rw [if_pos hl5] at heq;have hsw:=swDP hLB hd5 hF0 hF1;obtain ⟨H6,H7,H8,H9,hs6,he6,hs7,he7,hd7,hz7,hL9,hL7⟩:=hsw;have l05:=ldAtP hd5 hF0;have l15:=ldAtP hd5 hF1;have hV7:=hV.swp hF0 hF1;have hsz7:=(swp_szP d1 (F + root) (F + (c1))).trans hsz;have hHs9:H.size ≤ H9.size:=by rw [hz7]; exact hHs5
      have hms:d.size - (c1) < d.size - root:=by omega
      have hle:c1 ≤ d.size:=by omega
      have hD:D = D:=Eq.refl _;clear hc1 hc2 hd5 hl5
      repeat' (first | simp only [↓Zaca,↓Zabv,↓Zabx,↓Zabz,↓Zaai,↓Zabu,↓Zabw,↓Zaby,↓Zacw,↓Zacv,↓Zaco,↓Zaak,↓Zacj,↓Zack,↓Zaci,↓Zace,↓Zacl,↓Zach,↓Zacn,↓Zadb,↓Zaaz,↓Zaau,↓Zaam,↓Zaav,↓Zaat,↓Zaaw,↓Zaan,↓Zaax,↓Zaar,↓Zaay,↓Zacy,↓bxPut,↓Zabs,↓Zabr,↓Zabt,↓Zaag,↓Zaah,↓Zaaf,↓Zabk,↓Zabj,↓Zabl,↓Zabp,↓Zabq,↓Zacz,↓Zadc,↓Zabg,↓Zabe,↓dstAt,↓Zabh,Zacx,Zaae,Zabi,una_nt,Zaad,Zacb,Zacs,Zact,List.map,↓reduceIte,Nat.reduceEqDiff,Nat.reduceLT,dec_T,dec_F,true_and,Zaab, *] | (with_reducible first | refine Zacd (by assumption) (by decide +kernel) ?_ | refine Zacc (by decide +kernel) ?_ | refine Zacm (by decide +kernel) ?_ | refine Zacf ?_))
      exact ⟨d.size - (c1),hms,c1,Sort.swp d1 (F + root) (F + (c1)),rfl,hle,Eq.refl _,hd7,hV7,hsz7,rfl⟩
    | false =>
      rw [hl5] at hz;rw [if_neg (by rw [hl5]; decide)] at heq
      have hpost:PostAP HB b r k D H H5:=by rw [heq]; exact ⟨hd5,hHs5⟩
      clear heq hc1 hc2 hl5
      repeat' (first | simp only [↓Zaca,↓Zabv,↓Zabx,↓Zabz,↓Zaai,↓Zabu,↓Zabw,↓Zaby,↓Zacw,↓Zacv,↓Zaco,↓Zaak,↓Zacj,↓Zack,↓Zaci,↓Zace,↓Zacl,↓Zach,↓Zacn,↓Zadb,↓Zaaz,↓Zaau,↓Zaam,↓Zaav,↓Zaat,↓Zaaw,↓Zaan,↓Zaax,↓Zaar,↓Zaay,↓Zacy,↓bxPut,↓Zabs,↓Zabr,↓Zabt,↓Zaag,↓Zaah,↓Zaaf,↓Zabk,↓Zabj,↓Zabl,↓Zabp,↓Zabq,↓Zacz,↓Zadc,↓Zabg,↓Zabe,↓dstAt,↓Zabh,Zacx,Zaae,Zabi,una_nf,Zaad,Zacb,Zacs,Zacu,Zact,List.map,↓reduceIte,Nat.reduceEqDiff,Nat.reduceLT,dec_T,dec_F,Zaab, *] | (with_reducible first | refine Zacd (by assumption) (by decide +kernel) ?_ | refine Zacc (by decide +kernel) ?_ | refine Zacm (by decide +kernel) ?_ | refine Zacf ?_))
end Go.Proofs.Yteechkbnccpicaa
