/- The choice of a pivot, continued. -/
import Derived.Test.YtmpbapffjapghaaS9P
set_option linter.unusedVariables false
set_option linter.unusedSimpArgs false
set_option linter.unusedSectionVars false

namespace Go.Proofs.Ytmpbapffjapghaa
open Go Go.AM
set_option maxRecDepth 10000
variable {S:AM.Sys} (hS:Only S 5) {g:FuncId} {pre cs:List Value} {HB:Base} {V:(Int × Int) → Prop} {lt:(Int × Int) → (Int × Int) → Bool} (hc:CmpP S g pre cs HB V lt) (hLB:HB.low ≤ HB.size) {b r c:Nat} {k:Bool}
include hS hc hLB

set_option maxHeartbeats 2000000 in
theorem chooP_runs (d:Array (Int × Int)) (lo hi:Nat) (H:Heap) (hd:SaP HB H b r k d) (hV:AllP V d) (h1:lo < hi) (h2:hi ≤ d.size) (hm:d.size ≤ 100000000) :
    ∃ u H',Runs Try.prog S (.fn 60) [.slice (some ⟨r,0,none⟩) d.size c,.int .i64 (lo:Int),.int .i64 (hi:Int),.func (.func g) ⟨pre⟩ ⟨cs⟩] H u H' ∧ PostVP HB b r k d lo hi H u H':=by
  suffices h:WCall Try.prog S (.fn 60) [.slice (some ⟨r,0,none⟩) d.size c,.int .i64 (lo:Int),.int .i64 (hi:Int),.func (.func g) ⟨pre⟩ ⟨cs⟩] H (fun u H' => PostVP HB b r k d lo hi H u H') by
    obtain ⟨u,H',hr,h⟩:=h; exact ⟨u,H',hr,h⟩
  have hmx:Go.maxLen = 9223372036854775807:=rfl;have hal:=alCP H;have hkn:=Keep.newExact H [.int .i64 0] 3;have hon:=Own.new H [.int .i64 0] 3;have hHn0:∃ Hn,Hn = H.newExact [.int .i64 0] 3:=⟨_,rfl⟩;obtain ⟨Hn,hHn⟩:=hHn0;rw [← hHn] at hal hkn hon;have h0:TwoP HB Hn b r k H.size d:=⟨hd.kept hkn,⟨0,hon⟩,by have:=hd.lt; omega,hd.keep.size,fun x hx => by have:=(hd.side x hx).1.lt; omega⟩
  have hs0:=hkn.size;clear hHn hkn hon;obtain ⟨l,hl⟩:∃ l,hi = lo + l:=⟨hi - lo,by omega⟩
  subst hl;obtain ⟨q,hq⟩:∃ q,q = l / 4:=⟨_,rfl⟩;obtain ⟨i,hi⟩:∃ i,i = lo + q:=⟨_,rfl⟩;obtain ⟨j,hj⟩:∃ j,j = lo + q * 2:=⟨_,rfl⟩;obtain ⟨kk,hk⟩:∃ kk,kk = lo + q * 3:=⟨_,rfl⟩;have hwl:IntKind.i64.wrap (((lo + l:Nat):Int) - (lo:Int)) = (l:Int):=by rw [IntWalk.i64_in _ (by omega)]; omega
  have hq':IntKind.i64.wrap ((l:Int).tdiv 4) = (q:Int):=by rw [Int.tdiv_eq_ediv_of_nonneg (by omega),IntWalk.i64_in _ (by omega)]; omega
  have hwi:IntKind.i64.wrap ((lo:Int) + IntKind.i64.wrap ((q:Int) * 1)) = (i:Int):=by rw [IntWalk.i64_in ((q:Int) * 1) (by omega),IntWalk.i64_in _ (by omega)]; omega
  have hwj:IntKind.i64.wrap ((lo:Int) + IntKind.i64.wrap ((q:Int) * 2)) = (j:Int):=by rw [IntWalk.i64_in ((q:Int) * 2) (by omega),IntWalk.i64_in _ (by omega)]; omega
  have hwk:IntKind.i64.wrap ((lo:Int) + IntKind.i64.wrap ((q:Int) * 3)) = (kk:Int):=by rw [IntWalk.i64_in ((q:Int) * 3) (by omega),IntWalk.i64_in _ (by omega)]; omega
  have d4:¬ ((4:Int) = 0):=by decide
  by_cases h8:8 ≤ l
  case neg =>
    have h8':¬ (8:Int) ≤ (l:Int):=by omega
    obtain ⟨hd1,⟨n,ho⟩,_,_,_⟩:=h0;have rd:Hn.read H.size 0 1 = some [.int .i64 n]:=by
      have:=ho.read (o:=0) (n:=1) (by simp)
      simpa using this
    have hpost:∀ h:Int,PostVP HB b r k d lo (lo + l) H (.tuple ⟨[.int .i64 (j:Int),.int .i64 h]⟩) Hn:=fun h => ⟨⟨j,h,by omega,by omega,rfl⟩,hd1,hs0⟩
    clear hd hd1 ho hq hi hj hk;refine call_of Try.func60 rfl (Nat.le_of_ble_eq_true rfl) (hS.no rfl _ _) ?_
    rw [Try.ntmps60,Try.results60]
    repeat' (first | (with_reducible refine Zafd (fun h => ?_) (fun h => ?_)) | (with_reducible refine Zafa (fun h => ?_) (fun h => ?_)) | (with_reducible refine Zafh (fun h => ?_) (fun h => ?_)) | simp only [↓Zadl,↓Zadi,↓Zadk,↓Zaas,↓Zade,↓Zadj,↓Zafk,↓Zafj,↓Zafq,↓Zabt,↓Zaay,↓Zaav,↓Zabn,↓Zaaz,↓Zabz,↓bxPut,↓Zadb,↓Zaar,↓Zacy,↓Zafo,↓Zafp,↓Zafs,↓Zacj,↓Zacg,↓Zach,Zafm,Zaak,Zacm,Zadm,Zafg,Zact,List.nil_append,↓reduceIte,Nat.reduceEqDiff,Nat.reduceLT,dec_F,one1,Option.bind_some,ne_eq,not_false_eq_true, *,argF,List.getD_cons_zero,List.getD_cons_succ,ldCP,one1])
  have h8':(8:Int) ≤ (l:Int):=by omega
  by_cases h50:50 ≤ l
  case neg =>
    have h50':¬ (50:Int) ≤ (l:Int):=by omega
    obtain ⟨u1,H1,hR1,⟨p,hp,rfl⟩,ht,hs1⟩:=medP_runs hS hc hLB (c:=c) d H.size i j kk Hn h0 hV (by omega) (by omega) (by omega)
    have f1:=hR1.bx;obtain ⟨hd1,⟨n,ho⟩,_,_,_⟩:=ht;have rd:H1.read H.size 0 1 = some [.int .i64 n]:=by
      have:=ho.read (o:=0) (n:=1) (by simp)
      simpa using this
    have hpost:∀ h:Int,PostVP HB b r k d lo (lo + l) H (.tuple ⟨[.int .i64 (p:Int),.int .i64 h]⟩) H1:=fun h => ⟨⟨p,h,by omega,by omega,rfl⟩,hd1,by omega⟩
    clear hd hd1 ho hq hi hj hk hR1 h0 hp;refine call_of Try.func60 rfl (Nat.le_of_ble_eq_true rfl) (hS.no rfl _ _) ?_
    rw [Try.ntmps60,Try.results60]
    repeat' (first | (with_reducible refine Zafd (fun h => ?_) (fun h => ?_)) | (with_reducible refine Zafa (fun h => ?_) (fun h => ?_)) | (with_reducible refine Zafh (fun h => ?_) (fun h => ?_)) | simp only [↓Zadl,↓Zadi,↓Zadk,↓Zaas,↓Zade,↓Zadj,↓Zafk,↓Zafj,↓Zafq,↓Zabt,↓Zaay,↓Zaav,↓Zabn,↓Zaaz,↓Zabz,↓bxPut,↓Zadb,↓Zaar,↓Zacy,↓Zafo,↓Zafp,↓Zafs,↓Zacj,↓Zacg,↓Zach,Zafm,Zaak,Zacm,Zadm,Zafi,Zafg,Zact,List.map,List.nil_append,List.append_nil,↓reduceIte,Nat.reduceEqDiff,Nat.reduceLT,dec_T,dec_F,one1,Option.bind_some,ne_eq,not_false_eq_true, *,argF,List.getD_cons_zero,List.getD_cons_succ,ldCP,one1])
  have h50':(50:Int) ≤ (l:Int):=by omega
  obtain ⟨u1,H1,hR1,⟨p1,hp1,rfl⟩,ht1,hs1⟩:=madjP_runs hS hc hLB (c:=c) d H.size i Hn h0 hV (by omega) (by omega) hm
  have b1:lo ≤ p1 ∧ p1 < lo + l:=by omega
  clear hp1;obtain ⟨u2,H2,hR2,⟨p2,hp2,rfl⟩,ht2,hs2⟩:=madjP_runs hS hc hLB (c:=c) d H.size j H1 ht1 hV (by omega) (by omega) hm
  have b2:lo ≤ p2 ∧ p2 < lo + l:=by omega
  clear hp2;obtain ⟨u3,H3,hR3,⟨p3,hp3,rfl⟩,ht3,hs3⟩:=madjP_runs hS hc hLB (c:=c) d H.size kk H2 ht2 hV (by omega) (by omega) hm
  have b3:lo ≤ p3 ∧ p3 < lo + l:=by omega
  clear hp3;obtain ⟨u4,H4,hR4,⟨p,hp,rfl⟩,ht,hs4⟩:=medP_runs hS hc hLB (c:=c) d H.size p1 p2 p3 H3 ht3 hV (by omega) (by omega) (by omega)
  have b4:lo ≤ p ∧ p < lo + l:=by omega
  have hsz4:H.size ≤ H4.size:=by omega
  have f1:=hR1.bx;have f2:=hR2.bx;have f3:=hR3.bx;have f4:=hR4.bx;obtain ⟨hd1,⟨n,ho⟩,_,_,_⟩:=ht;have rd:H4.read H.size 0 1 = some [.int .i64 n]:=by
    have:=ho.read (o:=0) (n:=1) (by simp)
    simpa using this
  have hpost:∀ h:Int,PostVP HB b r k d lo (lo + l) H (.tuple ⟨[.int .i64 (p:Int),.int .i64 h]⟩) H4:=fun h => ⟨⟨p,h,b4.1,b4.2,rfl⟩,hd1,hsz4⟩
  clear hd hd1 ho hq hi hj hk hR1 hR2 hR3 hR4 h0 ht1 ht2 ht3 hp;refine call_of Try.func60 rfl (Nat.le_of_ble_eq_true rfl) (hS.no rfl _ _) ?_
  rw [Try.ntmps60,Try.results60]
  repeat' (first | (with_reducible refine Zafd (fun h => ?_) (fun h => ?_)) | (with_reducible refine Zafa (fun h => ?_) (fun h => ?_)) | (with_reducible refine Zafh (fun h => ?_) (fun h => ?_)) | simp only [↓Zadl,↓Zadi,↓Zadk,↓Zaas,↓Zade,↓Zadj,↓Zafk,↓Zafj,↓Zafq,↓Zabt,↓Zaay,↓Zaav,↓Zabn,↓Zaaz,↓Zabz,↓bxPut,↓Zadb,↓Zaar,↓Zacy,↓Zafo,↓Zafp,↓Zafs,↓Zacj,↓Zacg,↓Zach,Zafm,Zaak,Zacm,Zadm,Zafi,Zact,List.map,List.nil_append,List.append_nil,↓reduceIte,Nat.reduceEqDiff,Nat.reduceLT,dec_T,one1,Option.bind_some,ne_eq,not_false_eq_true, *,argF,List.getD_cons_zero,List.getD_cons_succ,ldCP,one1])
end Go.Proofs.Ytmpbapffjapghaa
