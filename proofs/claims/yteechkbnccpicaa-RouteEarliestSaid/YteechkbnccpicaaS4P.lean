/- Sorting by a heap. -/
import Derived.Test.YteechkbnccpicaaS2P
set_option linter.unusedVariables false
set_option linter.unusedSimpArgs false
set_option linter.unusedSectionVars false

namespace Go.Proofs.Yteechkbnccpicaa
open Go Go.AM
set_option maxRecDepth 10000
variable {S:AM.Sys} (hS:Only S 11) {g:FuncId} {pre cs:List Value} {HB:Base} {V:(Int × Int) → Prop} {lt:(Int × Int) → (Int × Int) → Bool} (hc:CmpP S g pre cs HB V lt) (hLB:HB.low ≤ HB.size) {b r c:Nat} {k:Bool}
include hS hc hLB

set_option maxHeartbeats 2000000 in
theorem heapP_runs (d:Array (Int × Int)) (lo hi:Nat) (H:Heap) (hd:SaP HB H b r k d) (hV:AllP V d) (h1:lo < hi) (h2:hi ≤ d.size) (hm:d.size ≤ 100000000) :
    ∃ u H',Runs Try.prog S (.fn 97) [.slice (some ⟨r,0,none⟩) d.size c,.int .i64 (lo:Int),.int .i64 (hi:Int),.func (.func g) ⟨pre⟩ ⟨cs⟩] H u H' ∧ PostAP HB b r k (Sort.heapSort lt d lo hi) H H':=by
  suffices h:WCall Try.prog S (.fn 97) [.slice (some ⟨r,0,none⟩) d.size c,.int .i64 (lo:Int),.int .i64 (hi:Int),.func (.func g) ⟨pre⟩ ⟨cs⟩] H (fun u H' => PostAP HB b r k (Sort.heapSort lt d lo hi) H H') by
    obtain ⟨u,H',hr,h⟩:=h; exact ⟨u,H',hr,h⟩
  have hmx:Go.maxLen = 9223372036854775807:=rfl;refine Zaba Try.func97 rfl (Nat.le_of_ble_eq_true rfl) (hS.no rfl _ _) ?_
  rw [Try.ntmps97,Try.results97];have hgo:∃ D,D = Sort.heapSort lt d lo hi:=⟨_,rfl⟩;obtain ⟨D,hD⟩:=hgo;rw [← hD];unfold Sort.heapSort at hD;have hng:∃ n,n = hi - lo:=⟨_,rfl⟩;obtain ⟨n,hn⟩:=hng;rw [← hn] at hD;have hn1:n + lo ≤ hi:=by omega
  have hn2:hi ≤ n + lo:=by omega
  clear hn;have hw0:IntKind.i64.wrap ((hi:Int) - (lo:Int)) = (n:Int):=by rw [IntWalk.i64_in _ (by omega)]; omega
  have hw1:IntKind.i64.wrap ((n:Int) - 1) = (n:Int) - 1:=by rw [IntWalk.i64_in _ (by omega)]
  have hw2:IntKind.i64.wrap (((n:Int) - 1).tdiv 2) = (((n - 1) / 2 + 1:Nat):Int) - 1:=by
    rw [Int.tdiv_eq_ediv_of_nonneg (by omega),IntWalk.i64_in _ (by omega)]; omega
  have d20:¬ ((2:Int) = 0):=by decide
  repeat' simp only [↓Zabx,↓Zabz,↓Zaaj,↓Zabu,↓Zacw,↓Zacv,↓Zadb,↓Zaau,↓Zaam,↓Zaan,↓bxPut,↓Zabs,↓Zadc,↓Zabg,↓Zabe,Zacx,Zaae,Zabi,↓reduceIte,Nat.reduceEqDiff,Nat.reduceLT,ne_eq,not_false_eq_true, *,argF,List.getD_cons_zero,List.getD_cons_succ]
  refine sxL_cut 0 (fun ρ H1 => ∃ (d1:Array (Int × Int)),D = Sort.heapPop lt lo n d1 ∧ SaP HB H1 b r k d1 ∧ AllP V d1 ∧ d1.size = d.size ∧ H.size ≤ H1.size ∧
      ρ 0 = .slice (some ⟨r,0,none⟩) d.size c ∧ ρ 3 = .func (.func g) ⟨pre⟩ ⟨cs⟩ ∧ ρ 8 = .int .i64 (lo:Int) ∧ ρ 9 = .int .i64 0 ∧ ρ 10 = .int .i64 (n:Int))
    (fun m ρ H1 => ∃ (d1:Array (Int × Int)),m ≤ n ∧ D = Sort.heapPop lt lo n (Sort.heapBuild lt n lo m d1) ∧ SaP HB H1 b r k d1 ∧ AllP V d1 ∧ d1.size = d.size ∧ H.size ≤ H1.size ∧
      ρ 0 = .slice (some ⟨r,0,none⟩) d.size c ∧ ρ 3 = .func (.func g) ⟨pre⟩ ⟨cs⟩ ∧ ρ 8 = .int .i64 (lo:Int) ∧ ρ 9 = .int .i64 0 ∧ ρ 10 = .int .i64 (n:Int) ∧ ρ 11 = .int .i64 ((m:Int) - 1))
    (n:=(n - 1) / 2 + 1) ⟨d,by omega,hD,hd,hV,rfl,Nat.le_refl _,rfl,rfl,rfl,rfl,rfl,rfl⟩ ?_ ?_
  · clear hd hV hD;rintro m ρ H1 ⟨d1,hmn,heq,hd,hV,hsz,hHs,e0,e3,e8,e9,e10,e11⟩;cases m with
    | zero =>
      have hz:¬ (0:Int) ≤ ((0:Nat):Int) - 1:=by decide
      replace heq:D = Sort.heapPop lt lo n d1:=heq
      repeat' simp only [↓Zaca,↓Zabx,↓Zabz,↓Zaai,↓Zabu,↓Zabw,↓Zacw,↓Zacv,↓Zadb,↓Zaau,↓Zaam,↓Zaan,↓Zaay,↓bxPut,↓Zabs,↓Zabr,↓Zaag,↓Zaaf,↓Zabk,↓Zabj,↓Zadc,↓Zabg,↓Zabe,↓Zabf,Zabd,Zacx,Zaae,Zabi,Zacb,Zact,List.nil_append,↓reduceIte,Nat.reduceEqDiff,Nat.reduceLT,dec_F,and_true,and_self, *]
      exact ⟨d1,Eq.refl _,hd,hV,hsz⟩
    | succ m =>
      have hz:(0:Int) ≤ ((m + 1:Nat):Int) - 1:=by omega
      have hk1:((m + 1:Nat):Int) - 1 = (m:Int):=by omega
      have hk2:IntKind.i64.wrap ((m:Int) - 1) = (m:Int) - 1:=by rw [IntWalk.i64_in _ (by omega)]
      have hsf:=siftP_runs hS hc hLB (c:=c) d1 m n lo H1 hd hV (by omega) (by omega) (by omega)
      obtain ⟨u,H2,hR2,hd2,hs2⟩:=hsf;rw [hsz] at hR2;have f2:=hR2.bx;have hV2:=sift_allP lt n lo (n - m) m d1 (Nat.le_refl _) (by omega) hV
      have hz2:=(sift_szP lt n lo (n - m) m d1 (Nat.le_refl _)).trans hsz;replace heq:D = Sort.heapPop lt lo n (Sort.heapBuild lt n lo m (Sort.siftDown lt n lo m d1)):=heq;have hHs2:=Nat.le_trans hHs hs2;clear hR2 hd hV
      repeat' simp only [↓Zaca,↓Zabx,↓Zabz,↓Zaai,↓Zabu,↓Zabw,↓Zacw,↓Zacv,↓Zadb,↓Zaau,↓Zaam,↓Zaan,↓Zaay,↓bxPut,↓Zabs,↓Zabr,↓Zaag,↓Zaaf,↓Zabk,↓Zabj,↓Zadc,↓Zabg,↓Zabe,↓Zabf,Zabd,Zacx,Zaae,Zabi,Zacb,Zacu,List.map,List.nil_append,List.append_nil,↓reduceIte,Nat.reduceEqDiff,Nat.reduceLT,dec_T,true_and,Int.natCast_nonneg, *]
      exact ⟨m,Nat.lt_succ_self m,Sort.siftDown lt n lo m d1,by omega,Eq.refl _,hd2,hV2,hz2,rfl⟩
  clear hd hV hD hw2;rintro ρ H1 ⟨d1,heq,hd,hV,hsz,hHs,e0,e3,e8,e9,e10⟩
  repeat' simp only [↓bxPut,↓Zabs,↓Zaaf,↓Zadc,Zacx,Zaae,Zabi,↓reduceIte,Nat.reduceLT, *]
  refine sxL_of (fun m ρ H1 => ∃ (d1:Array (Int × Int)),m ≤ n ∧ D = Sort.heapPop lt lo m d1 ∧ SaP HB H1 b r k d1 ∧ AllP V d1 ∧ d1.size = d.size ∧ H.size ≤ H1.size ∧
      ρ 0 = .slice (some ⟨r,0,none⟩) d.size c ∧ ρ 3 = .func (.func g) ⟨pre⟩ ⟨cs⟩ ∧ ρ 8 = .int .i64 (lo:Int) ∧ ρ 9 = .int .i64 0 ∧ ρ 12 = .int .i64 ((m:Int) - 1))
    (n:=n) ⟨d1,Nat.le_refl _,heq,hd,hV,hsz,hHs,e0,e3,e8,e9,rfl⟩ ?_
  clear hd hV heq e0 e3 e8 e9 e10 hsz hHs;rintro m ρ H1 ⟨d1,hmn,heq,hd,hV,hsz,hHs,e0,e3,e8,e9,e12⟩;cases m with
  | zero =>
    have hz:¬ (0:Int) ≤ ((0:Nat):Int) - 1:=by decide
    replace heq:D = d1:=heq;have hpost:PostAP HB b r k D H H1:=by rw [heq]; exact ⟨hd,hHs⟩
    clear heq
    repeat' (first | simp only [↓Zaca,↓Zabv,↓Zabx,↓Zabz,↓Zaai,↓Zabu,↓Zabw,↓Zacw,↓Zacv,↓Zaco,↓Zaak,↓Zacj,↓Zaci,↓Zace,↓Zach,↓Zadb,↓Zaau,↓Zaam,↓Zaat,↓Zaaw,↓Zaan,↓Zaar,↓Zaay,↓Zacy,↓bxPut,↓Zabs,↓Zabr,↓Zaag,↓Zaaf,↓Zabk,↓Zabj,↓Zabp,↓Zacz,↓Zadc,↓Zabg,↓Zabe,↓Zabf,Zacx,Zaae,Zabi,Zacb,Zact,List.nil_append,↓reduceIte,Nat.reduceLT,dec_F, *] | (with_reducible first | refine Zacd (by assumption) (by decide +kernel) ?_ | refine Zacc (by decide +kernel) ?_ | refine Zacm (by decide +kernel) ?_ | refine Zacf ?_))
  | succ m =>
    have hz:(0:Int) ≤ ((m + 1:Nat):Int) - 1:=by omega
    have hk1:((m + 1:Nat):Int) - 1 = (m:Int):=by omega
    have hk2:IntKind.i64.wrap ((m:Int) - 1) = (m:Int) - 1:=by rw [IntWalk.i64_in _ (by omega)]
    have hwm:IntKind.i64.wrap ((lo:Int) + (m:Int)) = ((lo + m:Nat):Int):=by rw [IntWalk.i64_in _ (by omega)]; omega
    have hF0:lo < d1.size:=by omega
    have hF1:lo + m < d1.size:=by omega
    have hix0:Zaaa Try.prog 35 (.slice (some ⟨r,0,none⟩) d.size c) (.int .i64 (lo:Int)) = _:=ixAtP (by omega)
    have hix1:Zaaa Try.prog 35 (.slice (some ⟨r,0,none⟩) d.size c) (.int .i64 ((lo + m:Nat):Int)) = _:=ixAtP (by omega)
    have l0:=ldAtP hd hF0;have l1:=ldAtP hd hF1;have hL1:=hd.lowS hLB;have hsw:=swDP hLB hd hF0 hF1;obtain ⟨H6,H7,H8,H9,hs6,he6,hs7,he7,hd7,hz7,hL9,hL7⟩:=hsw;have hV7:=hV.swp hF0 hF1;have hsz7:=(swp_szP d1 lo (lo + m)).trans hsz;have hsf:=siftP_runs hS hc hLB (c:=c) (Sort.swp d1 lo (lo + m)) 0 m lo H9 hd7 hV7 (by omega) (Nat.zero_le _) (by omega)
    obtain ⟨u,H2,hR2,hd2,hs2⟩:=hsf;rw [hsz7] at hR2;have f2:=hR2.bx;have f2':∀ (K:Value → Heap → Prop) (bl:Blk K),sxCallB Try.prog S (.fn 111) [.slice (some ⟨r,0,none⟩) d.size c,.int .i64 0,.int .i64 (m:Int),.int .i64 (lo:Int),.func (.func g) ⟨pre⟩ ⟨cs⟩] H9 K bl = K u H2:=f2;have hV2:=sift_allP lt m lo (m - 0) 0 (Sort.swp d1 lo (lo + m)) (Nat.le_refl _) (by omega) hV7
    have hz2:=(sift_szP lt m lo (m - 0) 0 (Sort.swp d1 lo (lo + m)) (Nat.le_refl _)).trans hsz7;replace heq:D = Sort.heapPop lt lo m (Sort.siftDown lt m lo 0 (Sort.swp d1 lo (lo + m))):=heq;have hHs2:H.size ≤ H2.size:=by omega
    clear hR2 hd hV f2
    repeat' (first | simp only [↓Zaca,↓Zabv,↓Zabx,↓Zabz,↓Zaai,↓Zabu,↓Zabw,↓Zacw,↓Zacv,↓Zaco,↓Zaak,↓Zacj,↓Zaci,↓Zace,↓Zach,↓Zacn,↓Zadb,↓Zaau,↓Zaam,↓Zaat,↓Zaaw,↓Zaan,↓Zaar,↓Zaay,↓Zacy,↓bxPut,↓Zabs,↓Zabr,↓Zaag,↓Zaaf,↓Zabk,↓Zabj,↓Zabp,↓Zacz,↓Zadc,↓Zabg,↓Zabe,↓Zabf,Zacx,Zaae,Zabi,Zacb,Zacu,List.map,List.nil_append,List.append_nil,↓reduceIte,Nat.reduceEqDiff,Nat.reduceLT,dec_T,true_and,Zaab,Int.natCast_nonneg, *] | (with_reducible first | refine Zacd (by assumption) (by decide +kernel) ?_ | refine Zacc (by decide +kernel) ?_ | refine Zacm (by decide +kernel) ?_ | refine Zacf ?_))
    exact ⟨m,Nat.lt_succ_self m,Sort.siftDown lt m lo 0 (Sort.swp d1 lo (lo + m)),by omega,Eq.refl _,hd2,hV2,hz2,rfl⟩
end Go.Proofs.Yteechkbnccpicaa

namespace Go.Proofs.Yteechkbnccpicaa
open Go Go.AM
set_option maxRecDepth 10000
def PostRP (HB:Base) (b r:Nat) (k:Bool) (d:Array (Int × Int)) (H H':Heap):Prop:=SaP HB H' b r k d ∧ H.size ≤ H'.size
variable {S:AM.Sys} (hS:Only S 11) {HB:Base} (hLB:HB.low ≤ HB.size) {b r c:Nat} {k:Bool}
include hS hLB

set_option maxHeartbeats 2000000 in
theorem revP_runs (f:Value) (d:Array (Int × Int)) (lo hi:Nat) (H:Heap) (hd:SaP HB H b r k d) (h1:lo < hi) (h2:hi ≤ d.size) (hm:d.size ≤ 100000000) :
    ∃ u H',Runs Try.prog S (.fn 100) [.slice (some ⟨r,0,none⟩) d.size c,.int .i64 (lo:Int),.int .i64 (hi:Int),f] H u H' ∧ PostRP HB b r k (Sort.reverseRange d lo hi) H H':=by
  suffices h:WCall Try.prog S (.fn 100) [.slice (some ⟨r,0,none⟩) d.size c,.int .i64 (lo:Int),.int .i64 (hi:Int),f] H (fun u H' => PostRP HB b r k (Sort.reverseRange d lo hi) H H') by
    obtain ⟨u,H',hr,h⟩:=h; exact ⟨u,H',hr,h⟩
  have hmx:Go.maxLen = 9223372036854775807:=rfl;refine Zaba Try.func100 rfl (Nat.le_of_ble_eq_true rfl) (hS.no rfl _ _) ?_
  rw [Try.ntmps100,Try.results100];have hgo:∃ D,D = Sort.reverseRange d lo hi:=⟨_,rfl⟩;obtain ⟨D,hD⟩:=hgo;rw [← hD];unfold Sort.reverseRange at hD;have hw0:IntKind.i64.wrap ((hi:Int) - 1) = ((hi - 1:Nat):Int):=by rw [IntWalk.i64_in _ (by omega)]; omega
  repeat' simp only [↓Zabx,↓Zabz,↓Zaaj,↓Zabu,↓Zacw,↓Zacv,↓Zadb,↓Zaau,↓Zaam,↓Zaan,↓bxPut,↓Zabs,↓Zadc,↓Zabg,↓Zabe,Zacx,Zaae,Zabi,↓reduceIte,Nat.reduceEqDiff,Nat.reduceLT, *,argF,List.getD_cons_zero,List.getD_cons_succ]
  refine sxL_of (fun m ρ H1 => ∃ (i j:Nat) (d1:Array (Int × Int)),m = j - i ∧ j < d.size ∧ i ≤ j + 1 ∧ D = Sort.reverseLoop i j d1 ∧ SaP HB H1 b r k d1 ∧ d1.size = d.size ∧ H.size ≤ H1.size ∧
      ρ 0 = .slice (some ⟨r,0,none⟩) d.size c ∧ ρ 8 = .int .i64 (i:Int) ∧ ρ 9 = .int .i64 (j:Int))
    ⟨lo,hi - 1,d,rfl,by omega,by omega,hD,hd,rfl,Nat.le_refl _,rfl,rfl,rfl⟩ ?_
  clear hd hD;rintro m ρ H1 ⟨i,j,d1,rfl,hj,hij,heq,hd,hsz,hHs,e0,e8,e9⟩;rw [Sort.reverseLoop] at heq
  by_cases hlt:i < j
  case neg =>
    have hn:¬ (i:Int) < (j:Int):=by omega
    rw [if_neg hlt] at heq;have hpost:PostRP HB b r k D H H1:=by rw [heq]; exact ⟨hd,hHs⟩
    clear heq
    repeat' (first | simp only [↓Zaca,↓Zabv,↓Zabx,↓Zabz,↓Zaai,↓Zabu,↓Zabw,↓Zacw,↓Zacv,↓Zaco,↓Zaak,↓Zacj,↓Zaci,↓Zach,↓Zadb,↓Zaau,↓Zaam,↓Zaat,↓Zaaw,↓Zaan,↓Zaar,↓Zacy,↓bxPut,↓Zabs,↓Zabr,↓Zaag,↓Zaaf,↓Zabk,↓Zabj,↓Zabp,↓Zacz,↓Zadc,↓Zabg,↓Zabe,Zacx,Zaae,Zabi,Zact,↓reduceIte,Nat.reduceEqDiff,Nat.reduceLT,dec_F, *] | (with_reducible first | refine Zacd (by assumption) (by decide +kernel) ?_ | refine Zacc (by decide +kernel) ?_ | refine Zacm (by decide +kernel) ?_ | refine Zacf ?_))
  have hp:(i:Int) < (j:Int):=by omega
  rw [if_pos hlt] at heq;have hF0:i < d1.size:=by omega
  have hF1:j < d1.size:=by omega
  have hwi:IntKind.i64.wrap ((i:Int) + 1) = ((i + 1:Nat):Int):=by rw [IntWalk.i64_in _ (by omega)]; omega
  have hwj:IntKind.i64.wrap ((j:Int) - 1) = ((j - 1:Nat):Int):=by rw [IntWalk.i64_in _ (by omega)]; omega
  have hix0:Zaaa Try.prog 35 (.slice (some ⟨r,0,none⟩) d.size c) (.int .i64 (i:Int)) = _:=ixAtP (by omega)
  have hix1:Zaaa Try.prog 35 (.slice (some ⟨r,0,none⟩) d.size c) (.int .i64 (j:Int)) = _:=ixAtP (by omega)
  have l0:=ldAtP hd hF0;have l1:=ldAtP hd hF1;have hL1:=hd.lowS hLB;have hsw:=swDP hLB hd hF0 hF1;obtain ⟨H6,H7,H8,H9,hs6,he6,hs7,he7,hd7,hz7,hL9,hL7⟩:=hsw;have hsz7:=(swp_szP d1 i j).trans hsz;have hHs9:H.size ≤ H9.size:=by rw [hz7]; exact hHs
  clear hd
  repeat' (first | simp only [↓Zaca,↓Zabv,↓Zabx,↓Zabz,↓Zaai,↓Zabu,↓Zabw,↓Zacw,↓Zacv,↓Zaco,↓Zaak,↓Zacj,↓Zaci,↓Zach,↓Zacn,↓Zadb,↓Zaau,↓Zaam,↓Zaat,↓Zaaw,↓Zaan,↓Zaar,↓Zacy,↓bxPut,↓Zabs,↓Zabr,↓Zaag,↓Zaaf,↓Zabk,↓Zabj,↓Zabp,↓Zacz,↓Zadc,↓Zabg,↓Zabe,Zacx,Zaae,Zabi,Zacu,↓reduceIte,Nat.reduceEqDiff,Nat.reduceLT,dec_T,true_and,Zaab, *] | (with_reducible first | refine Zacd (by assumption) (by decide +kernel) ?_ | refine Zacc (by decide +kernel) ?_ | refine Zacm (by decide +kernel) ?_ | refine Zacf ?_))
  exact ⟨j - 1 - (i + 1),by omega,i + 1,j - 1,Sort.swp d1 i j,rfl,by omega,by omega,Eq.refl _,hd7,hsz7,rfl,rfl⟩
end Go.Proofs.Yteechkbnccpicaa
