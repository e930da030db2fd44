/- Sifting down, and the heap. -/
import Derived.Test.YtmpbapffjapghaaS2P
import Derived.Sort.LotC
set_option linter.unusedVariables false
set_option linter.unusedSimpArgs false
set_option linter.unusedSectionVars false

namespace Go.Proofs.Ytmpbapffjapghaa
open Go Go.AM
set_option maxRecDepth 10000
theorem siftP_eq (lt:(Int × Int) → (Int × Int) → Bool) (hi F root:Nat) (d:Array (Int × Int)):Sort.siftDown lt hi F root d =
    if 2 * root + 1 ≥ hi then d else
      if 2 * root + 2 < hi ∧ lt d[F + (2 * root + 1)]! d[F + (2 * root + 2)]! = true then (if lt d[F + root]! d[F + (2 * root + 2)]! = true then Sort.siftDown lt hi F (2 * root + 2) (Sort.swp d (F + root) (F + (2 * root + 2))) else d)
      else (if lt d[F + root]! d[F + (2 * root + 1)]! = true then Sort.siftDown lt hi F (2 * root + 1) (Sort.swp d (F + root) (F + (2 * root + 1))) else d):=by
  rw [Sort.siftDown];have e:F + (2 * root + 1) + 1 = F + (2 * root + 2):=by omega
  have e2:2 * root + 1 + 1 = 2 * root + 2:=by omega
  rw [e,e2];split
  · rfl
  · by_cases hc:2 * root + 2 < hi ∧ lt d[F + (2 * root + 1)]! d[F + (2 * root + 2)]! = true
    · rw [if_pos hc,if_pos (by simpa using hc),dif_pos hc.1]
      cases lt d[F + root]! d[F + (2 * root + 2)]! <;> rfl
    · rw [if_neg hc,if_neg (by simpa using hc)]
      cases lt d[F + root]! d[F + (2 * root + 1)]! <;> rfl
def PostAP (HB:Base) (b r:Nat) (k:Bool) (d:Array (Int × Int)) (H H':Heap):Prop:=SaP HB H' b r k d ∧ H.size ≤ H'.size
theorem sift_szP (lt:(Int × Int) → (Int × Int) → Bool) (hi F:Nat):∀ (n root:Nat) (d:Array (Int × Int)),hi - root ≤ n → (Sort.siftDown lt hi F root d).size = d.size:=by
  intro n
  induction n with
  | zero =>
    intro root d h;rw [siftP_eq,if_pos (by omega)]
  | succ n ih =>
    intro root d h;rw [siftP_eq];split
    · rfl
    · split
      · split
        · rw [ih _ _ (by omega),swp_szP]
        · rfl
      · split
        · rw [ih _ _ (by omega),swp_szP]
        · rfl
theorem sift_allP {V:(Int × Int) → Prop} (lt:(Int × Int) → (Int × Int) → Bool) (hi F:Nat):∀ (n root:Nat) (d:Array (Int × Int)),hi - root ≤ n → F + hi ≤ d.size → AllP V d → AllP V (Sort.siftDown lt hi F root d):=by
  intro n
  induction n with
  | zero =>
    intro root d h _ hV;rw [siftP_eq,if_pos (by omega)]
    exact hV
  | succ n ih =>
    intro root d h hs hV;rw [siftP_eq];split
    · exact hV
    · split
      · split
        · exact ih _ _ (by omega) (by rw [swp_szP]; exact hs) (hV.swp (by omega) (by omega))
        · exact hV
      · split
        · exact ih _ _ (by omega) (by rw [swp_szP]; exact hs) (hV.swp (by omega) (by omega))
        · exact hV

variable {S:AM.Sys} (hS:Only S 5) {g:FuncId} {pre cs:List Value} {HB:Base} {V:(Int × Int) → Prop} {lt:(Int × Int) → (Int × Int) → Bool} (hc:CmpP S g pre cs HB V lt) (hLB:HB.low ≤ HB.size) {b r c:Nat} {k:Bool}
include hS hc hLB

set_option maxHeartbeats 2000000 in
theorem siftP_runs (d:Array (Int × Int)) (lo hi F:Nat) (H:Heap) (hd:SaP HB H b r k d) (hV:AllP V d) (h2:F + hi ≤ d.size) (hlo:lo ≤ d.size) (hm:d.size ≤ 100000000) :
    ∃ u H',Runs Try.prog S (.fn 68) [.slice (some ⟨r,0,none⟩) d.size c,.int .i64 (lo:Int),.int .i64 (hi:Int),.int .i64 (F:Int),.func (.func g) ⟨pre⟩ ⟨cs⟩] H u H' ∧ PostAP HB b r k (Sort.siftDown lt hi F lo d) H H':=by
  suffices h:WCall Try.prog S (.fn 68) [.slice (some ⟨r,0,none⟩) d.size c,.int .i64 (lo:Int),.int .i64 (hi:Int),.int .i64 (F:Int),.func (.func g) ⟨pre⟩ ⟨cs⟩] H (fun u H' => PostAP HB b r k (Sort.siftDown lt hi F lo d) H H') by
    obtain ⟨u,H',hr,h⟩:=h; exact ⟨u,H',hr,h⟩
  have hmx:Go.maxLen = 9223372036854775807:=rfl;refine call_of Try.func68 rfl (Nat.le_of_ble_eq_true rfl) (hS.no rfl _ _) ?_
  rw [Try.ntmps68,Try.results68];have hgo:∃ D,D = Sort.siftDown lt hi F lo d:=⟨_,rfl⟩;obtain ⟨D,hD⟩:=hgo;rw [← hD]
  repeat' simp only [↓Zadi,↓Zadk,↓Zaat,↓Zade,↓Zafk,↓Zafj,↓Zafq,↓Zabt,↓Zaay,↓bxPut,↓Zadb,↓Zafs,↓Zacj,↓reduceIte,Nat.reduceLT, *,argF,List.getD_cons_zero,List.getD_cons_succ]
  refine sxL_of (fun m ρ H1 => ∃ (root:Nat) (d1:Array (Int × Int)),m = d.size - root ∧ root ≤ d.size ∧ D = Sort.siftDown lt hi F root d1 ∧ SaP HB H1 b r k d1 ∧ AllP V d1 ∧ d1.size = d.size ∧ H.size ≤ H1.size ∧
      ρ 0 = .slice (some ⟨r,0,none⟩) d.size c ∧ ρ 2 = .int .i64 (hi:Int) ∧ ρ 3 = .int .i64 (F:Int) ∧ ρ 4 = .func (.func g) ⟨pre⟩ ⟨cs⟩ ∧ ρ 10 = .int .i64 (root:Int))
    ⟨lo,d,rfl,hlo,hD,hd,hV,rfl,Nat.le_refl _,rfl,rfl,rfl,rfl,rfl⟩ ?_
  clear hd hV hD;rintro m ρ H1 ⟨root,d1,rfl,hrt,heq,hd,hV,hsz,hHs,e0,e2,e3,e4,e10⟩;rw [siftP_eq] at heq;have hL1:=hd.lowS hLB;have hc1g:∃ c1,c1 = 2 * root + 1:=⟨_,rfl⟩;obtain ⟨c1,hc1⟩:=hc1g;have hwA:IntKind.i64.wrap (IntKind.i64.wrap (2 * (root:Int)) + 1) = (c1:Int):=by rw [IntWalk.i64_in (2 * (root:Int)) (by omega),IntWalk.i64_in _ (by omega)]; omega
  have hwB:IntKind.i64.wrap ((c1:Int) + 1) = ((c1 + 1:Nat):Int):=by rw [IntWalk.i64_in _ (by omega)]; omega
  have hc2:2 * root + 2 = c1 + 1:=by omega
  rw [← hc1,hc2] at heq
  by_cases hge:c1 ≥ hi
  · have hge':(hi:Int) ≤ (c1:Int):=by omega
    rw [if_pos hge] at heq;have hpost:PostAP HB b r k D H H1:=by rw [heq]; exact ⟨hd,hHs⟩
    clear heq hge hd hc1
    repeat' (first | simp only [↓Zadl,↓Zadf,↓Zadi,↓Zadk,↓Zaas,↓Zade,↓Zadg,↓Zadj,↓Zafk,↓Zafj,↓Zaey,↓Zaau,↓Zaeo,↓Zaer,↓Zaeg,↓Zads,↓Zaev,↓Zaee,↓Zafq,↓Zacb,↓Zabt,↓Zaay,↓Zabv,↓Zabn,↓Zabx,↓Zaaz,↓Zaby,↓Zabl,↓Zabz,↓Zafn,↓bxPut,↓Zadb,↓Zacz,↓Zadc,↓Zaaq,↓Zaar,↓Zaao,↓Zacp,↓Zacn,↓Zacq,↓Zacx,↓Zacy,↓Zafo,↓Zafs,↓Zacj,↓Zacg,↓dstAt,↓Zacl,Zafm,Zaak,Zacm,Zafi,↓reduceIte,Nat.reduceEqDiff,Nat.reduceLT,dec_T, *] | (with_reducible first | refine Zadr (by assumption) (by decide +kernel) ?_ | refine Zadq (by decide +kernel) ?_ | refine Zaew (by decide +kernel) ?_ | refine Zadw ?_))
  have hge':¬ (hi:Int) ≤ (c1:Int):=by omega
  rw [if_neg hge] at heq;have hF0:F + root < d1.size:=by omega
  have hF1:F + c1 < d1.size:=by omega
  have hwF0:IntKind.i64.wrap ((F:Int) + (root:Int)) = ((F + root:Nat):Int):=by rw [IntWalk.i64_in _ (by omega)]; omega
  have hwF1:IntKind.i64.wrap ((F:Int) + (c1:Int)) = ((F + c1:Nat):Int):=by rw [IntWalk.i64_in _ (by omega)]; omega
  have hwF2:IntKind.i64.wrap (((F + c1:Nat):Int) + 1) = ((F + (c1 + 1):Nat):Int):=by rw [IntWalk.i64_in _ (by omega)]; omega
  have hwF3:IntKind.i64.wrap ((F:Int) + ((c1 + 1:Nat):Int)) = ((F + (c1 + 1):Nat):Int):=by rw [IntWalk.i64_in _ (by omega)]; omega
  have hix0:Zaad Try.prog 40 (.slice (some ⟨r,0,none⟩) d.size c) (.int .i64 ((F + root:Nat):Int)) = _:=ixAtP (by omega)
  have hix1:Zaad Try.prog 40 (.slice (some ⟨r,0,none⟩) d.size c) (.int .i64 ((F + c1:Nat):Int)) = _:=ixAtP (by omega)
  by_cases hlt2:c1 + 1 < hi
  case neg =>
    have hn2:¬ ((c1 + 1:Nat):Int) < (hi:Int):=by omega
    rw [if_neg (fun h => hlt2 h.1)] at heq
    have l0:=ldAtP hd hF0;have l1:=ldAtP hd hF1;have hcx:=cmpDP hc hLB (show SaP HB H1 b r k d1 from by assumption) hV hF0 hF1
    obtain ⟨z,Hb,H5,hz,f5,g5,hd5,hs5,hL5⟩:=hcx;have hHs5:H.size ≤ H5.size:=Nat.le_trans (show H.size ≤ H1.size from by assumption) hs5
    cases hl5:lt d1[F + root]! d1[F + (c1)]! with
    | true =>
      rw [hl5] at hz;rw [if_pos hl5] at heq;have hsw:=swDP hLB hd5 hF0 hF1;obtain ⟨H6,H7,H8,H9,hs6,he6,hs7,he7,hd7,hz7,hL9,hL7⟩:=hsw;have l05:=ldAtP hd5 hF0;have l15:=ldAtP hd5 hF1;have hV7:=hV.swp hF0 hF1;have hsz7:=(swp_szP d1 (F + root) (F + (c1))).trans hsz;have hHs9:H.size ≤ H9.size:=by rw [hz7]; exact hHs5
      have hms:d.size - (c1) < d.size - root:=by omega
      have hle:c1 ≤ d.size:=by omega
      have hD:D = D:=Eq.refl _;clear hc1 hc2 hd5 hl5
      repeat' (first | simp only [↓Zadl,↓Zadf,↓Zadi,↓Zadk,↓Zaas,↓Zade,↓Zadg,↓Zadj,↓Zafk,↓Zafj,↓Zaey,↓Zaau,↓Zaeo,↓Zaer,↓Zaeg,↓Zads,↓Zaev,↓Zaee,↓Zaex,↓Zafq,↓Zacb,↓Zabt,↓Zaay,↓Zabv,↓Zabn,↓Zabx,↓Zaaz,↓Zaby,↓Zabl,↓Zabz,↓Zafn,↓bxPut,↓Zadb,↓Zacz,↓Zadc,↓Zaaq,↓Zaar,↓Zaao,↓Zacp,↓Zacn,↓Zacq,↓Zacx,↓Zacy,↓Zafo,↓Zafs,↓Zacj,↓Zacg,↓dstAt,↓Zacl,Zafm,Zaak,Zacm,una_nt,Zaaf,Zadm,Zafc,Zafg,List.map,↓reduceIte,Nat.reduceEqDiff,Nat.reduceLT,dec_F,true_and,Zaae, *] | (with_reducible first | refine Zadr (by assumption) (by decide +kernel) ?_ | refine Zadq (by decide +kernel) ?_ | refine Zaew (by decide +kernel) ?_ | refine Zadw ?_))
      exact ⟨d.size - (c1),hms,c1,Sort.swp d1 (F + root) (F + (c1)),rfl,hle,Eq.refl _,hd7,hV7,hsz7,rfl⟩
    | false =>
      rw [hl5] at hz;rw [if_neg (by rw [hl5]; decide)] at heq
      have hpost:PostAP HB b r k D H H5:=by rw [heq]; exact ⟨hd5,hHs5⟩
      clear heq hc1 hc2 hl5
      repeat' (first | simp only [↓Zadl,↓Zadf,↓Zadi,↓Zadk,↓Zaas,↓Zade,↓Zadg,↓Zadj,↓Zafk,↓Zafj,↓Zaey,↓Zaau,↓Zaeo,↓Zaer,↓Zaeg,↓Zads,↓Zaev,↓Zaee,↓Zaex,↓Zafq,↓Zacb,↓Zabt,↓Zaay,↓Zabv,↓Zabn,↓Zabx,↓Zaaz,↓Zaby,↓Zabl,↓Zabz,↓Zafn,↓bxPut,↓Zadb,↓Zacz,↓Zadc,↓Zaaq,↓Zaar,↓Zaao,↓Zacp,↓Zacn,↓Zacq,↓Zacx,↓Zacy,↓Zafo,↓Zafs,↓Zacj,↓Zacg,↓dstAt,↓Zacl,Zafm,Zaak,Zacm,una_nf,Zaaf,Zadm,Zafc,Zafi,Zafg,List.map,↓reduceIte,Nat.reduceEqDiff,Nat.reduceLT,dec_F,Zaae, *] | (with_reducible first | refine Zadr (by assumption) (by decide +kernel) ?_ | refine Zadq (by decide +kernel) ?_ | refine Zaew (by decide +kernel) ?_ | refine Zadw ?_))
  have hp2:((c1 + 1:Nat):Int) < (hi:Int):=by omega
  have hF2:F + (c1 + 1) < d1.size:=by omega
  have hix2:Zaad Try.prog 40 (.slice (some ⟨r,0,none⟩) d.size c) (.int .i64 ((F + (c1 + 1):Nat):Int)) = _:=ixAtP (by omega)
  have m1:=ldAtP hd hF1;have m2:=ldAtP hd hF2;have hcm:=cmpDP hc hLB hd hV hF1 hF2;obtain ⟨zz,Ha,H2,hzz,fa,ga,hd2,hs2,hL2⟩:=hcm;have l0:=ldAtP hd2 hF0;have hHs2:H.size ≤ H2.size:=Nat.le_trans hHs hs2;cases hl:lt d1[F + c1]! d1[F + (c1 + 1)]! with
  | true =>
    rw [hl] at hzz;rw [if_pos ⟨hlt2,hl⟩] at heq;have l1:=ldAtP hd2 hF2;clear hd hHs;have hcx:=cmpDP hc hLB (show SaP HB H2 b r k d1 from by assumption) hV hF0 hF2
    obtain ⟨z,Hb,H5,hz,f5,g5,hd5,hs5,hL5⟩:=hcx;have hHs5:H.size ≤ H5.size:=Nat.le_trans (show H.size ≤ H2.size from by assumption) hs5
    cases hl5:lt d1[F + root]! d1[F + (c1 + 1)]! with
    | true =>
      rw [hl5] at hz;rw [if_pos hl5] at heq;have hsw:=swDP hLB hd5 hF0 hF2;obtain ⟨H6,H7,H8,H9,hs6,he6,hs7,he7,hd7,hz7,hL9,hL7⟩:=hsw;have l05:=ldAtP hd5 hF0;have l15:=ldAtP hd5 hF2;have hV7:=hV.swp hF0 hF2;have hsz7:=(swp_szP d1 (F + root) (F + (c1 + 1))).trans hsz;have hHs9:H.size ≤ H9.size:=by rw [hz7]; exact hHs5
      have hms:d.size - (c1 + 1) < d.size - root:=by omega
      have hle:c1 + 1 ≤ d.size:=by omega
      have hD:D = D:=Eq.refl _;clear hc1 hc2 hd5 hl5
      repeat' (first | simp only [↓Zadl,↓Zadf,↓Zadi,↓Zadk,↓Zaas,↓Zade,↓Zadg,↓Zadj,↓Zafk,↓Zafj,↓Zaey,↓Zaau,↓Zaeo,↓Zaer,↓Zaeg,↓Zads,↓Zaev,↓Zaee,↓Zaex,↓Zafq,↓Zacb,↓Zabt,↓Zaay,↓Zabv,↓Zabn,↓Zabx,↓Zaaz,↓Zaby,↓Zabl,↓Zabz,↓Zafn,↓bxPut,↓Zadb,↓Zacz,↓Zadc,↓Zaaq,↓Zaar,↓Zaao,↓Zacp,↓Zacn,↓Zacq,↓Zacx,↓Zacy,↓Zafo,↓Zafs,↓Zacj,↓Zacg,↓dstAt,↓Zacl,Zafm,Zaak,Zacm,una_nt,Zaag,Zadm,Zafe,Zafi,Zafg,List.map,↓reduceIte,Nat.reduceEqDiff,Nat.reduceLT,dec_T,dec_F,true_and,Zaae, *] | (with_reducible first | refine Zadr (by assumption) (by decide +kernel) ?_ | refine Zadq (by decide +kernel) ?_ | refine Zaew (by decide +kernel) ?_ | refine Zadw ?_))
      exact ⟨d.size - (c1 + 1),hms,c1 + 1,Sort.swp d1 (F + root) (F + (c1 + 1)),rfl,hle,Eq.refl _,hd7,hV7,hsz7,rfl⟩
    | false =>
      rw [hl5] at hz;rw [if_neg (by rw [hl5]; decide)] at heq
      have hpost:PostAP HB b r k D H H5:=by rw [heq]; exact ⟨hd5,hHs5⟩
      clear heq hc1 hc2 hl5
      repeat' (first | simp only [↓Zadl,↓Zadf,↓Zadi,↓Zadk,↓Zaas,↓Zade,↓Zadg,↓Zadj,↓Zafk,↓Zafj,↓Zaey,↓Zaau,↓Zaeo,↓Zaer,↓Zaeg,↓Zads,↓Zaev,↓Zaee,↓Zaex,↓Zafq,↓Zacb,↓Zabt,↓Zaay,↓Zabv,↓Zabn,↓Zabx,↓Zaaz,↓Zaby,↓Zabl,↓Zabz,↓Zafn,↓bxPut,↓Zadb,↓Zacz,↓Zadc,↓Zaaq,↓Zaar,↓Zaao,↓Zacp,↓Zacn,↓Zacq,↓Zacx,↓Zacy,↓Zafo,↓Zafs,↓Zacj,↓Zacg,↓dstAt,↓Zacl,Zafm,Zaak,Zacm,una_nf,Zaag,Zadm,Zafe,Zafi,Zafg,List.map,↓reduceIte,Nat.reduceEqDiff,Nat.reduceLT,dec_T,dec_F,Zaae, *] | (with_reducible first | refine Zadr (by assumption) (by decide +kernel) ?_ | refine Zadq (by decide +kernel) ?_ | refine Zaew (by decide +kernel) ?_ | refine Zadw ?_))
  | false =>
    rw [hl] at hzz;rw [if_neg (fun h => by rw [hl] at h; exact absurd h.2 (by decide))] at heq
    have l1:=ldAtP hd2 hF1;clear hd hHs;have hcx:=cmpDP hc hLB (show SaP HB H2 b r k d1 from by assumption) hV hF0 hF1
    obtain ⟨z,Hb,H5,hz,f5,g5,hd5,hs5,hL5⟩:=hcx;have hHs5:H.size ≤ H5.size:=Nat.le_trans (show H.size ≤ H2.size from by assumption) hs5
    cases hl5:lt d1[F + root]! d1[F + (c1)]! with
    | true =>
      rw [hl5] at hz;rw [if_pos hl5] at heq;have hsw:=swDP hLB hd5 hF0 hF1;obtain ⟨H6,H7,H8,H9,hs6,he6,hs7,he7,hd7,hz7,hL9,hL7⟩:=hsw;have l05:=ldAtP hd5 hF0;have l15:=ldAtP hd5 hF1;have hV7:=hV.swp hF0 hF1;have hsz7:=(swp_szP d1 (F + root) (F + (c1))).trans hsz;have hHs9:H.size ≤ H9.size:=by rw [hz7]; exact hHs5
      have hms:d.size - (c1) < d.size - root:=by omega
      have hle:c1 ≤ d.size:=by omega
      have hD:D = D:=Eq.refl _;clear hc1 hc2 hd5 hl5
      repeat' (first | simp only [↓Zadl,↓Zadf,↓Zadi,↓Zadk,↓Zaas,↓Zade,↓Zadg,↓Zadj,↓Zafk,↓Zafj,↓Zaey,↓Zaau,↓Zaeo,↓Zaer,↓Zaeg,↓Zads,↓Zaev,↓Zaee,↓Zaex,↓Zafq,↓Zacb,↓Zabt,↓Zaay,↓Zabv,↓Zabn,↓Zabx,↓Zaaz,↓Zaby,↓Zabl,↓Zabz,↓Zafn,↓bxPut,↓Zadb,↓Zacz,↓Zadc,↓Zaaq,↓Zaar,↓Zaao,↓Zacp,↓Zacn,↓Zacq,↓Zacx,↓Zacy,↓Zafo,↓Zafs,↓Zacj,↓Zacg,↓dstAt,↓Zacl,Zafm,Zaak,Zacm,una_nt,Zaag,Zadm,Zafe,Zafg,List.map,↓reduceIte,Nat.reduceEqDiff,Nat.reduceLT,dec_T,dec_F,true_and,Zaae, *] | (with_reducible first | refine Zadr (by assumption) (by decide +kernel) ?_ | refine Zadq (by decide +kernel) ?_ | refine Zaew (by decide +kernel) ?_ | refine Zadw ?_))
      exact ⟨d.size - (c1),hms,c1,Sort.swp d1 (F + root) (F + (c1)),rfl,hle,Eq.refl _,hd7,hV7,hsz7,rfl⟩
    | false =>
      rw [hl5] at hz;rw [if_neg (by rw [hl5]; decide)] at heq
      have hpost:PostAP HB b r k D H H5:=by rw [heq]; exact ⟨hd5,hHs5⟩
      clear heq hc1 hc2 hl5
      repeat' (first | simp only [↓Zadl,↓Zadf,↓Zadi,↓Zadk,↓Zaas,↓Zade,↓Zadg,↓Zadj,↓Zafk,↓Zafj,↓Zaey,↓Zaau,↓Zaeo,↓Zaer,↓Zaeg,↓Zads,↓Zaev,↓Zaee,↓Zaex,↓Zafq,↓Zacb,↓Zabt,↓Zaay,↓Zabv,↓Zabn,↓Zabx,↓Zaaz,↓Zaby,↓Zabl,↓Zabz,↓Zafn,↓bxPut,↓Zadb,↓Zacz,↓Zadc,↓Zaaq,↓Zaar,↓Zaao,↓Zacp,↓Zacn,↓Zacq,↓Zacx,↓Zacy,↓Zafo,↓Zafs,↓Zacj,↓Zacg,↓dstAt,↓Zacl,Zafm,Zaak,Zacm,una_nf,Zaag,Zadm,Zafe,Zafi,Zafg,List.map,↓reduceIte,Nat.reduceEqDiff,Nat.reduceLT,dec_T,dec_F,Zaae, *] | (with_reducible first | refine Zadr (by assumption) (by decide +kernel) ?_ | refine Zadq (by decide +kernel) ?_ | refine Zaew (by decide +kernel) ?_ | refine Zadw ?_))
end Go.Proofs.Ytmpbapffjapghaa
