/- Patterns are broken: some places of the range change. -/
import Derived.Test.YtmpbapffjapghaaS1P
import Derived.Test.YtmpbapffjapghaaSBx
import Derived.Sort.Lot0
set_option linter.unusedVariables false
set_option linter.unusedSimpArgs false
set_option linter.unusedSectionVars false

namespace Go.Proofs.Ytmpbapffjapghaa
open Go Go.AM
set_option maxRecDepth 10000
def PostBP (HB:Base) (b r:Nat) (k:Bool) (V:(Int × Int) → Prop) (lo hi:Nat) (d:Array (Int × Int)) (H H':Heap):Prop:=∃ d',Sort.PermIn lo hi d d' ∧ AllP V d' ∧ d'.size = d.size ∧ SaP HB H' b r k d' ∧ H.size ≤ H'.size
theorem and_leP (z:Int) (m:Nat) (hm:m < 18446744073709551616):((BitVec.ofInt IntKind.u64.bits z &&& BitVec.ofInt IntKind.u64.bits (m:Int)).toNat) ≤ m:=by
  have h1:(BitVec.ofInt IntKind.u64.bits (m:Int)).toNat = m:=by
    rw [BitVec.toNat_ofInt];show (((m:Int)) % 18446744073709551616).toNat = m;omega
  rw [BitVec.toNat_and,h1];exact Nat.and_le_right
variable {S:AM.Sys} (hS:Only S 5) {HB:Base} {V:(Int × Int) → Prop} (hLB:HB.low ≤ HB.size) {b r c:Nat} {k:Bool}
include hS hLB

set_option maxHeartbeats 2000000 in
theorem brkP_runs (f:Value) (d:Array (Int × Int)) (lo hi:Nat) (H:Heap) (hd:SaP HB H b r k d) (hV:AllP V d) (h1:lo < hi) (h2:hi ≤ d.size) (hm:d.size ≤ 60000) :
    ∃ u H',Runs Try.prog S (.fn 59) [.slice (some ⟨r,0,none⟩) d.size c,.int .i64 (lo:Int),.int .i64 (hi:Int),f] H u H' ∧ PostBP HB b r k V lo hi d H H':=by
  suffices h:WCall Try.prog S (.fn 59) [.slice (some ⟨r,0,none⟩) d.size c,.int .i64 (lo:Int),.int .i64 (hi:Int),f] H (fun u H' => PostBP HB b r k V lo hi d H H') by
    obtain ⟨u,H',hr,h⟩:=h; exact ⟨u,H',hr,h⟩
  have hmx:Go.maxLen = 9223372036854775807:=rfl;obtain ⟨l,hl⟩:∃ l,hi = lo + l:=⟨hi - lo,by omega⟩
  subst hl;have hwl:IntKind.i64.wrap (((lo + l:Nat):Int) - (lo:Int)) = (l:Int):=by rw [IntWalk.i64_in _ (by omega)]; omega
  by_cases h8:8 ≤ l
  case neg =>
    have h8':¬ (8:Int) ≤ (l:Int):=by omega
    have hpost:PostBP HB b r k V lo (lo + l) d H H:=⟨d,Sort.permIn_refl _ _ _,hV,rfl,hd,Nat.le_refl _⟩;refine call_of Try.func59 rfl (Nat.le_of_ble_eq_true rfl) (hS.no rfl _ _) ?_
    rw [Try.ntmps59,Try.results59];clear hd hV
    repeat' simp only [↓Zadl,↓Zadi,↓Zadk,↓Zaas,↓Zaat,↓Zade,↓Zafk,↓Zafj,↓Zafq,↓Zabt,↓Zaay,↓Zaav,↓Zabx,↓Zaaz,↓Zabz,↓Zabf,↓Zafn,↓bxPut,↓Zadb,↓Zacx,↓Zafo,↓Zafs,↓Zacj,↓Zacg,↓Zach,Zafm,Zaak,Zacm,Zadm,Zafg,List.nil_append,↓reduceIte,Nat.reduceEqDiff,Nat.reduceLT,dec_F, *,argF,List.getD_cons_zero,List.getD_cons_succ]
  have h8':(8:Int) ≤ (l:Int):=by omega
  have hL1:=hd.lowS hLB;have d4:¬ ((4:Int) = 0):=by decide
  obtain ⟨q,hq⟩:∃ q,q = lo + l / 4 * 2:=⟨_,rfl⟩;have hq1:lo + 4 ≤ q:=by omega
  have hq2:q + 1 < lo + l:=by omega
  have hwq:IntKind.i64.wrap ((lo:Int) + IntKind.i64.wrap (IntKind.i64.wrap ((l:Int).tdiv 4) * 2)) = (q:Int):=by
    rw [Int.tdiv_eq_ediv_of_nonneg (by omega),IntWalk.i64_in ((l:Int) / 4) (by omega),IntWalk.i64_in ((l:Int) / 4 * 2) (by omega),IntWalk.i64_in _ (by omega)]; omega
  have hwq1:IntKind.i64.wrap ((q:Int) - 1) = ((q - 1:Nat):Int):=by rw [IntWalk.i64_in _ (by omega)]; omega
  have hwq2:IntKind.i64.wrap ((q:Int) + 1) = ((q + 1:Nat):Int):=by rw [IntWalk.i64_in _ (by omega)]; omega
  clear hq;have alx:aAlloc Try.prog H 90 = some (.pointer (some ⟨H.size,0,none⟩),H.newExact [.int .u64 0] 90):=by kernel_rfl
  have cvx:∀ z:Int,aConv Try.prog 3 90 (.int .i64 z) = some (.int .u64 (IntKind.u64.wrap z)):=fun z => by kernel_rfl
  have cvui:∀ z:Int,aConv Try.prog 75 3 (.int .u64 z) = some (.int .i64 (IntKind.i64.wrap z)):=fun z => by kernel_rfl
  have hwx:IntKind.u64.wrap (l:Int) = (l:Int):=IntWalk.u64_in _ (by omega)
  have hkn:=Keep.newExact H [.int .u64 0] 90;have hon:=Own.new H [.int .u64 0] 90;have hi:∃ i,Try.prog.info? 90 = some i ∧ i.size = 1:=Option.map_eq_some_iff.1 (show (Try.prog.info? 90).map (·.size) = some 1 by kernel_rfl)
  obtain ⟨inf,hi,hs⟩:=hi;obtain ⟨H2,s2,ho2,hk2,hz2⟩:=hon.storeX (o:=0) (t:=90) hi (v:=.int .u64 (l:Int)) (new:=[.int .u64 (l:Int)]) rfl hs rfl (by simp)
  have ho2:Own H2 H.size 90 [.int .u64 (l:Int)]:=by simpa [splice] using ho2
  have hne:H.size ≠ r:=by have:=hd.lt; omega
  have hle:HB.size ≤ H.size:=hd.keep.size;have hsd:∀ x ∈ HB.side,x.1 ≠ H.size:=fun x hx => by have:=(hd.side x hx).1.lt; omega
  have hd2:SaP HB H2 b r k d:=(hd.kept hkn).other hon hk2 hle hne hsd;have hHs2:H.size ≤ H2.size:=by rw [hz2,size_new]; omega
  have fn:=(nextPow_runs hS l (by omega) H2).bx
  have hp2:=Sort.two_pow_bitsLen_le (show 0 < l by omega)
  obtain ⟨M,hM⟩:∃ M,M = 2 ^ Sort.bitsLen l:=⟨_,rfl⟩;rw [← hM] at fn hp2;have hM1:1 ≤ M:=by rw [hM]; exact Nat.pow_pos (by decide)
  have hwM:IntKind.u64.wrap ((M:Int) - 1) = ((M - 1:Nat):Int):=by rw [IntWalk.u64_in _ (by omega)]; omega
  clear hM hon hkn hk2 hz2;refine call_of Try.func59 rfl (Nat.le_of_ble_eq_true rfl) (hS.no rfl _ _) ?_
  rw [Try.ntmps59,Try.results59]
  repeat' simp only [↓Zadl,↓Zadi,↓Zadk,↓Zaas,↓Zaat,↓Zade,↓Zafk,↓Zafj,↓Zafq,↓Zabt,↓Zaay,↓Zaav,↓Zabx,↓Zaaz,↓Zabz,↓Zabf,↓Zafn,↓bxPut,↓Zadb,↓Zacx,↓Zafo,↓Zafs,↓Zacj,↓Zacg,↓Zach,Zaaa,Zafm,Zaak,Zacm,Zadm,Zafi,List.map,List.nil_append,List.append_nil,↓reduceIte,Nat.reduceEqDiff,Nat.reduceLT,dec_T,ne_eq,not_false_eq_true, *,argF,List.getD_cons_zero,List.getD_cons_succ]
  refine sxL_of (fun m ρ H1 => ∃ (i:Nat) (d1:Array (Int × Int)) (z:Int),m = q + 2 - i ∧ q - 1 ≤ i ∧ i ≤ q + 2 ∧ Sort.PermIn lo (lo + l) d d1 ∧ AllP V d1 ∧ d1.size = d.size ∧ SaP HB H1 b r k d1 ∧ H.size ≤ H1.size ∧ Own H1 H.size 90 [.int .u64 z] ∧
      ρ 0 = .slice (some ⟨r,0,none⟩) d.size c ∧ ρ 1 = .int .i64 (lo:Int) ∧ ρ 8 = .int .i64 (l:Int) ∧ ρ 9 = .pointer (some ⟨H.size,0,none⟩) ∧ ρ 10 = .int .u64 (M:Int) ∧ ρ 11 = .int .i64 (i:Int))
    ⟨q - 1,d,l,rfl,Nat.le_refl _,by omega,Sort.permIn_refl _ _ _,hV,rfl,hd2,hHs2,ho2,rfl,rfl,rfl,rfl,rfl,rfl⟩ ?_
  clear hd hV hd2 ho2 hHs2 fn s2 alx hi hs;rintro m ρ H1 ⟨i,d1,z,rfl,hi1,hi2,hpm,hV,hsz,hd,hHs,ho,e0,e1,e8,e9,e10,e11⟩
  by_cases hiq:i ≤ q + 1
  case neg =>
    have hn:¬ (i:Int) ≤ ((q + 1:Nat):Int):=by omega
    have hpost:PostBP HB b r k V lo (lo + l) d H H1:=⟨d1,hpm,hV,hsz,hd,hHs⟩;clear hpm hV hd ho
    repeat' (first | simp only [↓Zadl,↓Zadf,↓Zadi,↓Zadk,↓Zaas,↓Zade,↓Zadg,↓Zafk,↓Zafj,↓Zaey,↓Zaau,↓Zaeo,↓Zaeg,↓Zads,↓Zaee,↓Zafq,↓Zabt,↓Zaay,↓Zabn,↓Zabx,↓Zaaz,↓Zabl,↓Zabz,↓Zabf,↓Zafn,↓bxPut,↓Zadb,↓Zacz,↓Zaaq,↓Zaao,↓Zacp,↓Zacn,↓Zacx,↓Zafo,↓Zafs,↓Zacj,↓Zacg,↓Zach,Zafm,Zaak,Zacm,Zadm,Zafg,List.nil_append,↓reduceIte,Nat.reduceEqDiff,Nat.reduceLT,dec_F,ne_eq,not_false_eq_true, *] | (with_reducible first | refine Zadr (by assumption) (by decide +kernel) ?_ | refine Zadq (by decide +kernel) ?_ | refine Zaew (by decide +kernel) ?_ | refine Zadw ?_))
  have hp:(i:Int) ≤ ((q + 1:Nat):Int):=by omega
  have hxn:=xorNext_runs hS z H.size H1 ho (hd.lowS hLB);obtain ⟨z',H3,hR3,ho3,hk3⟩:=hxn;have f3:=hR3.bx;have hd3:SaP HB H3 b r k d1:=hd.other ho hk3 hle hne hsd;have hL3:=hd3.lowS hLB;have hHs3:=Nat.le_trans hHs hk3.size;have hal:=and_leP z' (M - 1) (by omega)
  have hog:∃ o1,o1 = ((BitVec.ofInt IntKind.u64.bits z' &&& BitVec.ofInt IntKind.u64.bits (((M - 1:Nat)):Int)).toNat):=⟨_,rfl⟩;obtain ⟨o1,ho1⟩:=hog;rw [← ho1] at hal;have hwo:IntKind.i64.wrap (IntKind.u64.wrap (((BitVec.ofInt IntKind.u64.bits z' &&& BitVec.ofInt IntKind.u64.bits (((M - 1:Nat)):Int)).toNat:Nat):Int)) = (o1:Int):=by
    rw [← ho1,IntWalk.u64_in _ (by omega),IntWalk.i64_in _ (by omega)]
  have hwi:IntKind.i64.wrap ((i:Int) + 1) = ((i + 1:Nat):Int):=by rw [IntWalk.i64_in _ (by omega)]; omega
  clear ho1 hR3 hd ho hHs
  by_cases hol:l ≤ o1
  · have hol':(l:Int) ≤ (o1:Int):=by omega
    have hwo2:IntKind.i64.wrap ((o1:Int) - (l:Int)) = ((o1 - l:Nat):Int):=by rw [IntWalk.i64_in _ (by omega)]; omega
    have hwp:IntKind.i64.wrap ((lo:Int) + (((o1 - l):Nat):Int)) = ((lo + (o1 - l):Nat):Int):=by rw [IntWalk.i64_in _ (by omega)]; omega
    have hFa:i < d1.size:=by omega
    have hFb:lo + (o1 - l) < d1.size:=by omega
    have hix0:Zaad Try.prog 40 (.slice (some ⟨r,0,none⟩) d.size c) (.int .i64 (i:Int)) = _:=ixAtP (by omega)
    have hix1:Zaad Try.prog 40 (.slice (some ⟨r,0,none⟩) d.size c) (.int .i64 ((lo + (o1 - l):Nat):Int)) = _:=ixAtP (by omega)
    have l0:=ldAtP hd3 hFa;have l1:=ldAtP hd3 hFb;have hsw:=swDXP hLB hd3 ho3 (Ne.symm hne) hFa hFb;obtain ⟨H6,H7,H8,H9,hs6,he6,hs7,he7,hd7,hz7,hL9,hL7,ho9⟩:=hsw;have hV7:=hV.swp hFa hFb;have hsz7:=(swp_szP d1 i (lo + (o1 - l))).trans hsz;have hpm7:=Sort.permIn_trans _ _ _ _ _ hpm (Sort.swp_permIn d1 lo (lo + l) i (lo + (o1 - l)) (by omega) (by omega) (by omega) (by omega) (by omega))
    have hHs9:H.size ≤ H9.size:=by rw [hz7]; exact hHs3
    have hmm:q + 2 - (i + 1) < q + 2 - i:=by omega
    clear hV hsz hpm hd3 ho3 hk3 hal
    repeat' (first | simp only [↓Zadl,↓Zadf,↓Zadi,↓Zadk,↓Zaas,↓Zade,↓Zadg,↓Zafk,↓Zafj,↓Zaey,↓Zaau,↓Zaeo,↓Zaeg,↓Zads,↓Zaee,↓Zaex,↓Zafq,↓Zabt,↓Zaay,↓Zabn,↓Zabx,↓Zaaz,↓Zabl,↓Zabz,↓Zabf,↓Zafn,↓bxPut,↓Zadb,↓Zacz,↓Zaaq,↓Zaao,↓Zacp,↓Zacn,↓Zacx,↓Zafo,↓Zafs,↓Zacj,↓Zacg,↓Zach,Zaaa,Zafm,Zaak,Zacm,Zadm,Zafi,List.map,List.nil_append,List.append_nil,↓reduceIte,Nat.reduceEqDiff,Nat.reduceLT,dec_T,true_and,Zaae,ne_eq,not_false_eq_true, *] | (with_reducible first | refine Zadr (by assumption) (by decide +kernel) ?_ | refine Zadq (by decide +kernel) ?_ | refine Zaew (by decide +kernel) ?_ | refine Zadw ?_))
    exact ⟨q + 2 - (i + 1),hmm,i + 1,Sort.swp d1 i (lo + (o1 - l)),z',rfl,by omega,by omega,hpm7,hV7,hsz7,hd7,ho9,rfl⟩
  · have hol':¬ (l:Int) ≤ (o1:Int):=by omega
    have hwp:IntKind.i64.wrap ((lo:Int) + ((o1:Nat):Int)) = ((lo + o1:Nat):Int):=by rw [IntWalk.i64_in _ (by omega)]; omega
    have hFa:i < d1.size:=by omega
    have hFb:lo + o1 < d1.size:=by omega
    have hix0:Zaad Try.prog 40 (.slice (some ⟨r,0,none⟩) d.size c) (.int .i64 (i:Int)) = _:=ixAtP (by omega)
    have hix1:Zaad Try.prog 40 (.slice (some ⟨r,0,none⟩) d.size c) (.int .i64 ((lo + o1:Nat):Int)) = _:=ixAtP (by omega)
    have l0:=ldAtP hd3 hFa;have l1:=ldAtP hd3 hFb;have hsw:=swDXP hLB hd3 ho3 (Ne.symm hne) hFa hFb;obtain ⟨H6,H7,H8,H9,hs6,he6,hs7,he7,hd7,hz7,hL9,hL7,ho9⟩:=hsw;have hV7:=hV.swp hFa hFb;have hsz7:=(swp_szP d1 i (lo + o1)).trans hsz;have hpm7:=Sort.permIn_trans _ _ _ _ _ hpm (Sort.swp_permIn d1 lo (lo + l) i (lo + o1) (by omega) (by omega) (by omega) (by omega) (by omega))
    have hHs9:H.size ≤ H9.size:=by rw [hz7]; exact hHs3
    have hmm:q + 2 - (i + 1) < q + 2 - i:=by omega
    clear hV hsz hpm hd3 ho3 hk3 hal
    repeat' (first | simp only [↓Zadl,↓Zadf,↓Zadi,↓Zadk,↓Zaas,↓Zade,↓Zadg,↓Zafk,↓Zafj,↓Zaey,↓Zaau,↓Zaeo,↓Zaeg,↓Zads,↓Zaee,↓Zaex,↓Zafq,↓Zabt,↓Zaay,↓Zabn,↓Zabx,↓Zaaz,↓Zabl,↓Zabz,↓Zabf,↓Zafn,↓bxPut,↓Zadb,↓Zacz,↓Zaaq,↓Zaao,↓Zacp,↓Zacn,↓Zacx,↓Zafo,↓Zafs,↓Zacj,↓Zacg,↓Zach,Zaaa,Zafm,Zaak,Zacm,Zadm,Zafi,Zafg,List.map,List.nil_append,List.append_nil,↓reduceIte,Nat.reduceEqDiff,Nat.reduceLT,dec_T,dec_F,true_and,Zaae,ne_eq,not_false_eq_true, *] | (with_reducible first | refine Zadr (by assumption) (by decide +kernel) ?_ | refine Zadq (by decide +kernel) ?_ | refine Zaew (by decide +kernel) ?_ | refine Zadw ?_))
    exact ⟨q + 2 - (i + 1),hmm,i + 1,Sort.swp d1 i (lo + o1),z',rfl,by omega,by omega,hpm7,hV7,hsz7,hd7,ho9,rfl⟩
end Go.Proofs.Ytmpbapffjapghaa
