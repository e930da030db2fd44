/- A range the other way round. -/
import Derived.Test.YtmpbapffjapghaaS2P
import Derived.Sort.LotB
set_option linter.unusedVariables false
set_option linter.unusedSimpArgs false
set_option linter.unusedSectionVars false

namespace Go.Proofs.Ytmpbapffjapghaa
open Go Go.AM
set_option maxRecDepth 10000
def PostRP (HB:Base) (b r:Nat) (k:Bool) (d:Array (Int × Int)) (H H':Heap):Prop:=SaP HB H' b r k d ∧ H.size ≤ H'.size
variable {S:AM.Sys} (hS:Only S 5) {HB:Base} (hLB:HB.low ≤ HB.size) {b r c:Nat} {k:Bool}
include hS hLB

set_option maxHeartbeats 2000000 in
theorem revP_runs (f:Value) (d:Array (Int × Int)) (lo hi:Nat) (H:Heap) (hd:SaP HB H b r k d) (h1:lo < hi) (h2:hi ≤ d.size) (hm:d.size ≤ 100000000) :
    ∃ u H',Runs Try.prog S (.fn 61) [.slice (some ⟨r,0,none⟩) d.size c,.int .i64 (lo:Int),.int .i64 (hi:Int),f] H u H' ∧ PostRP HB b r k (Sort.reverseRange d lo hi) H H':=by
  suffices h:WCall Try.prog S (.fn 61) [.slice (some ⟨r,0,none⟩) d.size c,.int .i64 (lo:Int),.int .i64 (hi:Int),f] H (fun u H' => PostRP HB b r k (Sort.reverseRange d lo hi) H H') by
    obtain ⟨u,H',hr,h⟩:=h; exact ⟨u,H',hr,h⟩
  have hmx:Go.maxLen = 9223372036854775807:=rfl;refine call_of Try.func61 rfl (Nat.le_of_ble_eq_true rfl) (hS.no rfl _ _) ?_
  rw [Try.ntmps61,Try.results61];have hgo:∃ D,D = Sort.reverseRange d lo hi:=⟨_,rfl⟩;obtain ⟨D,hD⟩:=hgo;rw [← hD];unfold Sort.reverseRange at hD;have hw0:IntKind.i64.wrap ((hi:Int) - 1) = ((hi - 1:Nat):Int):=by rw [IntWalk.i64_in _ (by omega)]; omega
  repeat' simp only [↓Zadi,↓Zadk,↓Zaat,↓Zade,↓Zafk,↓Zafj,↓Zafq,↓Zabt,↓Zaay,↓Zaaz,↓bxPut,↓Zadb,↓Zafs,↓Zacj,↓Zacg,Zafm,Zaak,Zacm,↓reduceIte,Nat.reduceEqDiff,Nat.reduceLT, *,argF,List.getD_cons_zero,List.getD_cons_succ]
  refine sxL_of (fun m ρ H1 => ∃ (i j:Nat) (d1:Array (Int × Int)),m = j - i ∧ j < d.size ∧ i ≤ j + 1 ∧ D = Sort.reverseLoop i j d1 ∧ SaP HB H1 b r k d1 ∧ d1.size = d.size ∧ H.size ≤ H1.size ∧
      ρ 0 = .slice (some ⟨r,0,none⟩) d.size c ∧ ρ 8 = .int .i64 (i:Int) ∧ ρ 9 = .int .i64 (j:Int))
    ⟨lo,hi - 1,d,rfl,by omega,by omega,hD,hd,rfl,Nat.le_refl _,rfl,rfl,rfl⟩ ?_
  clear hd hD;rintro m ρ H1 ⟨i,j,d1,rfl,hj,hij,heq,hd,hsz,hHs,e0,e8,e9⟩;rw [Sort.reverseLoop] at heq
  by_cases hlt:i < j
  case neg =>
    have hn:¬ (i:Int) < (j:Int):=by omega
    rw [if_neg hlt] at heq;have hpost:PostRP HB b r k D H H1:=by rw [heq]; exact ⟨hd,hHs⟩
    clear heq
    repeat' (first | simp only [↓Zadl,↓Zadf,↓Zadi,↓Zadk,↓Zaas,↓Zade,↓Zadg,↓Zafk,↓Zafj,↓Zaey,↓Zaau,↓Zaeo,↓Zaeg,↓Zaee,↓Zafq,↓Zabt,↓Zaay,↓Zabn,↓Zabx,↓Zaaz,↓Zabl,↓Zafn,↓bxPut,↓Zadb,↓Zacz,↓Zaaq,↓Zaao,↓Zacp,↓Zacn,↓Zacx,↓Zafo,↓Zafs,↓Zacj,↓Zacg,Zafm,Zaak,Zacm,Zafg,↓reduceIte,Nat.reduceEqDiff,Nat.reduceLT,dec_F, *] | (with_reducible first | refine Zadr (by assumption) (by decide +kernel) ?_ | refine Zadq (by decide +kernel) ?_ | refine Zaew (by decide +kernel) ?_ | refine Zadw ?_))
  have hp:(i:Int) < (j:Int):=by omega
  rw [if_pos hlt] at heq;have hF0:i < d1.size:=by omega
  have hF1:j < d1.size:=by omega
  have hwi:IntKind.i64.wrap ((i:Int) + 1) = ((i + 1:Nat):Int):=by rw [IntWalk.i64_in _ (by omega)]; omega
  have hwj:IntKind.i64.wrap ((j:Int) - 1) = ((j - 1:Nat):Int):=by rw [IntWalk.i64_in _ (by omega)]; omega
  have hix0:Zaad Try.prog 40 (.slice (some ⟨r,0,none⟩) d.size c) (.int .i64 (i:Int)) = _:=ixAtP (by omega)
  have hix1:Zaad Try.prog 40 (.slice (some ⟨r,0,none⟩) d.size c) (.int .i64 (j:Int)) = _:=ixAtP (by omega)
  have l0:=ldAtP hd hF0;have l1:=ldAtP hd hF1;have hL1:=hd.lowS hLB;have hsw:=swDP hLB hd hF0 hF1;obtain ⟨H6,H7,H8,H9,hs6,he6,hs7,he7,hd7,hz7,hL9,hL7⟩:=hsw;have hsz7:=(swp_szP d1 i j).trans hsz;have hHs9:H.size ≤ H9.size:=by rw [hz7]; exact hHs
  clear hd
  repeat' (first | simp only [↓Zadl,↓Zadf,↓Zadi,↓Zadk,↓Zaas,↓Zade,↓Zadg,↓Zafk,↓Zafj,↓Zaey,↓Zaau,↓Zaeo,↓Zaeg,↓Zaee,↓Zaex,↓Zafq,↓Zabt,↓Zaay,↓Zabn,↓Zabx,↓Zaaz,↓Zabl,↓Zafn,↓bxPut,↓Zadb,↓Zacz,↓Zaaq,↓Zaao,↓Zacp,↓Zacn,↓Zacx,↓Zafo,↓Zafs,↓Zacj,↓Zacg,Zafm,Zaak,Zacm,Zafi,↓reduceIte,Nat.reduceEqDiff,Nat.reduceLT,dec_T,true_and,Zaae, *] | (with_reducible first | refine Zadr (by assumption) (by decide +kernel) ?_ | refine Zadq (by decide +kernel) ?_ | refine Zaew (by decide +kernel) ?_ | refine Zadw ?_))
  exact ⟨j - 1 - (i + 1),by omega,i + 1,j - 1,Sort.swp d1 i j,rfl,by omega,by omega,Eq.refl _,hd7,hsz7,rfl,rfl⟩
end Go.Proofs.Ytmpbapffjapghaa
