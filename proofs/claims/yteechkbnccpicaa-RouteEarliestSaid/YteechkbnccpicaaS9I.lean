/- The choice of a pivot: some place of the range. -/
import Derived.Test.YteechkbnccpicaaSBx
import Derived.Sort.Lot0
import Derived.Test.YteechkbnccpicaaS4I
import Derived.Test.YteechkbnccpicaaS7I
import Derived.Test.YteechkbnccpicaaS8I
import Derived.Sort.AssemblyPlain
set_option linter.unusedVariables false
set_option linter.unusedSimpArgs false
set_option linter.unusedSectionVars false

namespace Go.Proofs.Yteechkbnccpicaa
open Go Go.AM
set_option maxRecDepth 10000
theorem ldCI (H:Heap) (r o:Nat):aLoad Try.prog H 3 (.pointer (some ⟨r,o,none⟩)) = (H.read r o 1).bind one1:=by kernel_rfl
theorem ncCI (a:Addr):aNilCheck (.pointer (some a)) = some (.pointer (some a)):=rfl
theorem exAI (a b:Value):aExtract (.tuple ⟨[a,b]⟩) 0 = some a:=by kernel_rfl
theorem exBI (a b:Value):aExtract (.tuple ⟨[a,b]⟩) 1 = some b:=by kernel_rfl
theorem alCI (H:Heap):aAlloc Try.prog H 3 = some (.pointer (some ⟨H.size,0,none⟩),H.newExact [.int .i64 0] 3):=by kernel_rfl
theorem infoCI:∃ i,Try.prog.info? 3 = some i ∧ i.size = 1:=Option.map_eq_some_iff.1 (show (Try.prog.info? 3).map (·.size) = some 1 by kernel_rfl)
theorem cmpKI {S:AM.Sys} {g:FuncId} {pre cs:List Value} {HB:Base} {V:Int → Prop} {lt:Int → Int → Bool} (hc:CmpI S g pre cs HB V lt) (hLB:HB.low ≤ HB.size) {H:Heap} {b r:Nat} {k:Bool} {d:Array Int} (h:SaI HB H b r k d) (hV:AllI V d) {i j:Nat} (hi:i < d.size) (hj:j < d.size) :
    ∃ (z:Int) (H4 H5:Heap),(∀ (K:Value → Heap → Prop) (bl:Blk K),sxCallB Try.prog S (.fn g) (pre ++ [celInt.val d[i]!,celInt.val d[j]!] ++ cs) (H.relow H.size) K bl = K (.int .i64 z) H4) ∧
      (∀ (all:List Oper) (n:Nat) (kk:Heap → Prop),sxD all n H H4 kk = kk H5) ∧ Keep H H5 ∧ H5.low ≤ H5.size:=by
  obtain ⟨z,H3,hK3,hz,hR3⟩:=hc (H.relow H.size) d[i]! d[j]! (h.keep.trans (Keep.relowS H)) (hV _ hi) (hV _ hj);obtain ⟨H4,H5,hK5,hL5,f5,hd5⟩:=drawn (h.keep.low hLB) ⟨H3,hK3,hR3⟩;exact ⟨z,H4,H5,f5,hd5,hK5,hL5⟩
structure TwoI (HB:Base) (H:Heap) (b r:Nat) (k:Bool) (s:Nat) (d:Array Int):Prop where
  arr:SaI HB H b r k d
  own:∃ n,Own H s 3 [.int .i64 n]
  ne:s ≠ r
  le:HB.size ≤ s
  sd:∀ x ∈ HB.side,x.1 ≠ s
def PostOI (HB:Base) (b r:Nat) (k:Bool) (s:Nat) (d:Array Int) (x y:Nat) (H:Heap) (u:Value) (H':Heap):Prop:=(u = .tuple ⟨[.int .i64 (x:Int),.int .i64 (y:Int)]⟩ ∨ u = .tuple ⟨[.int .i64 (y:Int),.int .i64 (x:Int)]⟩) ∧ TwoI HB H' b r k s d ∧ H.size ≤ H'.size
def PostMI (HB:Base) (b r:Nat) (k:Bool) (s:Nat) (d:Array Int) (x y z:Nat) (H:Heap) (u:Value) (H':Heap):Prop:=(∃ p:Nat,(p = x ∨ p = y ∨ p = z) ∧ u = .int .i64 (p:Int)) ∧ TwoI HB H' b r k s d ∧ H.size ≤ H'.size
def PostVI (HB:Base) (b r:Nat) (k:Bool) (d:Array Int) (lo hi:Nat) (H:Heap) (u:Value) (H':Heap):Prop:=(∃ (p:Nat) (h:Int),lo ≤ p ∧ p < hi ∧ u = .tuple ⟨[.int .i64 (p:Int),.int .i64 h]⟩) ∧ SaI HB H' b r k d ∧ H.size ≤ H'.size

variable {S:AM.Sys} (hS:Only S 11) {g:FuncId} {pre cs:List Value} {HB:Base} {V:Int → Prop} {lt:Int → Int → Bool} (hc:CmpI S g pre cs HB V lt) (hLB:HB.low ≤ HB.size) {b r c:Nat} {k:Bool}
include hS hc hLB

theorem ord2I_runs (d:Array Int) (s x y:Nat) (H:Heap) (h:TwoI HB H b r k s d) (hV:AllI V d) (h1:x < d.size) (h2:y < d.size) :
    ∃ u H',Runs Try.prog S (.fn 114) [.slice (some ⟨r,0,none⟩) d.size c,.int .i64 (x:Int),.int .i64 (y:Int),.pointer (some ⟨s,0,none⟩),.func (.func g) ⟨pre⟩ ⟨cs⟩] H u H' ∧ PostOI HB b r k s d x y H u H':=by
  suffices h:WCall Try.prog S (.fn 114) [.slice (some ⟨r,0,none⟩) d.size c,.int .i64 (x:Int),.int .i64 (y:Int),.pointer (some ⟨s,0,none⟩),.func (.func g) ⟨pre⟩ ⟨cs⟩] H (fun u H' => PostOI HB b r k s d x y H u H') by
    obtain ⟨u,H',hr,h⟩:=h; exact ⟨u,H',hr,h⟩
  obtain ⟨hd,⟨n,ho⟩,hne,hle,hsd⟩:=h;have hL1:=hd.lowS hLB;have hix0:Zaaa Try.prog 25 (.slice (some ⟨r,0,none⟩) d.size c) (.int .i64 (x:Int)) = _:=ixAtI h1;have hix1:Zaaa Try.prog 25 (.slice (some ⟨r,0,none⟩) d.size c) (.int .i64 (y:Int)) = _:=ixAtI h2;have l0:=ldAtI hd h1;have l1:=ldAtI hd h2;obtain ⟨z,Hb,H5,f5,g5,hK5,hL5⟩:=cmpKI hc hLB hd hV h2 h1;have hs5:=hK5.size;have hd5:=hd.kept hK5;have ho5:=ho.keep hK5;have rd5:H5.read s 0 1 = some [.int .i64 n]:=by
    have:=ho5.read (o:=0) (n:=1) (by simp)
    simpa using this
  obtain ⟨ic,hic,hicz⟩:=infoCI;obtain ⟨H6,f6,ho6,hk6,hz6⟩:=ho5.storeX (o:=0) (t:=3) hic (v:=.int .i64 (IntKind.i64.wrap (n + 1))) (new:=[.int .i64 (IntKind.i64.wrap (n + 1))]) rfl hicz rfl (by simp)
  have hd6:SaI HB H6 b r k d:=hd5.other ho5 hk6 hle hne hsd;have ho6':Own H6 s 3 [.int .i64 (IntKind.i64.wrap (n + 1))]:=by simpa [splice] using ho6
  have hp1:PostOI HB b r k s d x y H (.tuple ⟨[.int .i64 (x:Int),.int .i64 (y:Int)]⟩) H5:=⟨.inl rfl,⟨hd5,⟨n,ho5⟩,hne,hle,hsd⟩,hs5⟩;have hp2:PostOI HB b r k s d x y H (.tuple ⟨[.int .i64 (y:Int),.int .i64 (x:Int)]⟩) H6:=⟨.inr rfl,⟨hd6,⟨_,ho6'⟩,hne,hle,hsd⟩,by rw [hz6]; exact hs5⟩
  clear hd ho hd5 hd6 ho6 ho6' ho5 hk6 hz6;refine Zaba Try.func114 rfl (Nat.le_of_ble_eq_true rfl) (hS.no rfl _ _) ?_
  rw [Try.ntmps114,Try.results114]
  repeat' (first | (with_reducible refine sxGuardB_tsp (fun h => ?_) (fun h => ?_)) | (with_reducible refine sxGuardB_fsp (fun h => ?_) (fun h => ?_)) | (with_reducible refine sxIfB_sp (fun h => ?_) (fun h => ?_)) | simp only [↓Zaca,↓Zabv,↓Zabx,↓Zabz,↓Zaai,↓Zaby,↓Zacw,↓Zacv,↓Zaco,↓Zaak,↓Zacj,↓Zaci,↓Zace,↓Zach,↓Zacn,↓Zadb,↓Zaau,↓Zaam,↓Zaat,↓Zaaw,↓bxOp_nilCheck,↓Zaan,↓Zaar,↓Zaay,↓Zacy,↓bxPut,↓Zabs,↓Zabt,↓Zabq,↓Zacz,↓Zada,↓Zadc,↓Zabg,↓Zabe,Zacx,Zaae,Zabi,Zacb,Zabn,List.map,↓reduceIte,Nat.reduceEqDiff,Nat.reduceLT,Zaab,one1,Option.bind_some, *,argF,List.getD_cons_zero,List.getD_cons_succ,ncCI,ldCI,one1] | (with_reducible first | refine Zacd (by assumption) (by decide +kernel) ?_ | refine Zacc (by decide +kernel) ?_ | refine Zacm (by decide +kernel) ?_ | refine Zacf ?_))

theorem medI_runs (d:Array Int) (s x y z:Nat) (H:Heap) (h:TwoI HB H b r k s d) (hV:AllI V d) (h1:x < d.size) (h2:y < d.size) (h3:z < d.size) :
    ∃ u H',Runs Try.prog S (.fn 110) [.slice (some ⟨r,0,none⟩) d.size c,.int .i64 (x:Int),.int .i64 (y:Int),.int .i64 (z:Int),.pointer (some ⟨s,0,none⟩),.func (.func g) ⟨pre⟩ ⟨cs⟩] H u H' ∧ PostMI HB b r k s d x y z H u H':=by
  suffices h:WCall Try.prog S (.fn 110) [.slice (some ⟨r,0,none⟩) d.size c,.int .i64 (x:Int),.int .i64 (y:Int),.int .i64 (z:Int),.pointer (some ⟨s,0,none⟩),.func (.func g) ⟨pre⟩ ⟨cs⟩] H (fun u H' => PostMI HB b r k s d x y z H u H') by
    obtain ⟨u,H',hr,h⟩:=h; exact ⟨u,H',hr,h⟩
  obtain ⟨u1,H1,hR1,hu1,ht1,hs1⟩:=ord2I_runs hS hc hLB (c:=c) d s x y H h hV h1 h2;obtain ⟨x1,y1,e1,hxy⟩:∃ x1 y1:Nat,u1 = .tuple ⟨[.int .i64 (x1:Int),.int .i64 (y1:Int)]⟩ ∧ ((x1 = x ∧ y1 = y) ∨ (x1 = y ∧ y1 = x)):=by
    rcases hu1 with e | e
    · exact ⟨x,y,e,.inl ⟨rfl,rfl⟩⟩
    · exact ⟨y,x,e,.inr ⟨rfl,rfl⟩⟩
  subst e1;obtain ⟨u2,H2,hR2,hu2,ht2,hs2⟩:=ord2I_runs hS hc hLB (c:=c) d s y1 z H1 ht1 hV (by omega) h3
  obtain ⟨y2,z2,e2,hyz⟩:∃ x1 y2:Nat,u2 = .tuple ⟨[.int .i64 (x1:Int),.int .i64 (y2:Int)]⟩ ∧ ((x1 = y1 ∧ y2 = z) ∨ (x1 = z ∧ y2 = y1)):=by
    rcases hu2 with e | e
    · exact ⟨y1,z,e,.inl ⟨rfl,rfl⟩⟩
    · exact ⟨z,y1,e,.inr ⟨rfl,rfl⟩⟩
  subst e2;obtain ⟨u3,H3,hR3,hu3,ht3,hs3⟩:=ord2I_runs hS hc hLB (c:=c) d s x1 y2 H2 ht2 hV (by omega) (by omega)
  obtain ⟨x3,y3,e3,hxy3⟩:∃ x3 y3:Nat,u3 = .tuple ⟨[.int .i64 (x3:Int),.int .i64 (y3:Int)]⟩ ∧ ((x3 = x1 ∧ y3 = y2) ∨ (x3 = y2 ∧ y3 = x1)):=by
    rcases hu3 with e | e
    · exact ⟨x1,y2,e,.inl ⟨rfl,rfl⟩⟩
    · exact ⟨y2,x1,e,.inr ⟨rfl,rfl⟩⟩
  subst e3;have f1:=hR1.bx;have f2:=hR2.bx;have f3:=hR3.bx;have hpost:PostMI HB b r k s d x y z H (.int .i64 (y3:Int)) H3:=⟨⟨y3,by omega,rfl⟩,ht3,by omega⟩
  clear hR1 hR2 hR3 hu1 hu2 hu3 hxy hyz hxy3;refine Zaba Try.func110 rfl (Nat.le_of_ble_eq_true rfl) (hS.no rfl _ _) ?_
  rw [Try.ntmps110,Try.results110]
  repeat' (first | (with_reducible refine sxGuardB_tsp (fun h => ?_) (fun h => ?_)) | (with_reducible refine sxGuardB_fsp (fun h => ?_) (fun h => ?_)) | (with_reducible refine sxIfB_sp (fun h => ?_) (fun h => ?_)) | simp only [↓Zabx,↓Zabz,↓Zaby,↓Zacw,↓Zacv,↓Zadb,↓Zaau,↓Zaam,↓Zaap,↓Zaay,↓bxPut,↓Zabs,↓Zabq,↓Zacz,↓Zada,↓Zadc,↓Zabg,↓Zabe,↓Zabf,Zacx,Zacb,Zabm,List.map,List.nil_append,List.append_nil,↓reduceIte,Nat.reduceEqDiff,Nat.reduceLT, *,argF,List.getD_cons_zero,List.getD_cons_succ,exAI,exBI])

theorem madjI_runs (d:Array Int) (s x:Nat) (H:Heap) (h:TwoI HB H b r k s d) (hV:AllI V d) (h1:1 ≤ x) (h2:x + 1 < d.size) (hm:d.size ≤ 100000000) :
    ∃ u H',Runs Try.prog S (.fn 109) [.slice (some ⟨r,0,none⟩) d.size c,.int .i64 (x:Int),.pointer (some ⟨s,0,none⟩),.func (.func g) ⟨pre⟩ ⟨cs⟩] H u H' ∧ PostMI HB b r k s d (x - 1) x (x + 1) H u H':=by
  suffices h:WCall Try.prog S (.fn 109) [.slice (some ⟨r,0,none⟩) d.size c,.int .i64 (x:Int),.pointer (some ⟨s,0,none⟩),.func (.func g) ⟨pre⟩ ⟨cs⟩] H (fun u H' => PostMI HB b r k s d (x - 1) x (x + 1) H u H') by
    obtain ⟨u,H',hr,h⟩:=h; exact ⟨u,H',hr,h⟩
  have hmx:Go.maxLen = 9223372036854775807:=rfl;obtain ⟨u1,H1,hR1,hp⟩:=medI_runs hS hc hLB (c:=c) d s (x - 1) x (x + 1) H h hV (by omega) (by omega) h2
  have f1:=hR1.bx;have hw1:IntKind.i64.wrap ((x:Int) - 1) = ((x - 1:Nat):Int):=by rw [IntWalk.i64_in _ (by omega)]; omega
  have hw2:IntKind.i64.wrap ((x:Int) + 1) = ((x + 1:Nat):Int):=by rw [IntWalk.i64_in _ (by omega)]; omega
  clear hR1;refine Zaba Try.func109 rfl (Nat.le_of_ble_eq_true rfl) (hS.no rfl _ _) ?_
  rw [Try.ntmps109,Try.results109]
  repeat' (first | (with_reducible refine sxGuardB_tsp (fun h => ?_) (fun h => ?_)) | (with_reducible refine sxGuardB_fsp (fun h => ?_) (fun h => ?_)) | (with_reducible refine sxIfB_sp (fun h => ?_) (fun h => ?_)) | simp only [↓Zabx,↓Zabz,↓Zaby,↓Zacw,↓Zacv,↓Zadb,↓Zaau,↓Zaam,↓Zaan,↓Zaay,↓bxPut,↓Zabs,↓Zabq,↓Zacz,↓Zada,↓Zadc,↓Zabg,↓Zabe,↓Zabf,Zacx,Zaae,Zabi,Zacb,Zabm,List.map,List.nil_append,List.append_nil,↓reduceIte,Nat.reduceEqDiff,Nat.reduceLT, *,argF,List.getD_cons_zero,List.getD_cons_succ])
end Go.Proofs.Yteechkbnccpicaa

namespace Go.Proofs.Yteechkbnccpicaa
open Go Go.AM
set_option maxRecDepth 10000
variable {S:AM.Sys} (hS:Only S 11) {g:FuncId} {pre cs:List Value} {HB:Base} {V:Int → Prop} {lt:Int → Int → Bool} (hc:CmpI S g pre cs HB V lt) (hLB:HB.low ≤ HB.size) {b r c:Nat} {k:Bool}
include hS hc hLB

set_option maxHeartbeats 2000000 in
theorem chooI_runs (d:Array Int) (lo hi:Nat) (H:Heap) (hd:SaI HB H b r k d) (hV:AllI V d) (h1:lo < hi) (h2:hi ≤ d.size) (hm:d.size ≤ 100000000) :
    ∃ u H',Runs Try.prog S (.fn 88) [.slice (some ⟨r,0,none⟩) d.size c,.int .i64 (lo:Int),.int .i64 (hi:Int),.func (.func g) ⟨pre⟩ ⟨cs⟩] H u H' ∧ PostVI HB b r k d lo hi H u H':=by
  suffices h:WCall Try.prog S (.fn 88) [.slice (some ⟨r,0,none⟩) d.size c,.int .i64 (lo:Int),.int .i64 (hi:Int),.func (.func g) ⟨pre⟩ ⟨cs⟩] H (fun u H' => PostVI HB b r k d lo hi H u H') by
    obtain ⟨u,H',hr,h⟩:=h; exact ⟨u,H',hr,h⟩
  have hmx:Go.maxLen = 9223372036854775807:=rfl;have hal:=alCI H;have hkn:=Keep.newExact H [.int .i64 0] 3;have hon:=Own.new H [.int .i64 0] 3;have hHn0:∃ Hn,Hn = H.newExact [.int .i64 0] 3:=⟨_,rfl⟩;obtain ⟨Hn,hHn⟩:=hHn0;rw [← hHn] at hal hkn hon;have h0:TwoI HB Hn b r k H.size d:=⟨hd.kept hkn,⟨0,hon⟩,by have:=hd.lt; omega,hd.keep.size,fun x hx => by have:=(hd.side x hx).1.lt; omega⟩
  have hs0:=hkn.size;clear hHn hkn hon;obtain ⟨l,hl⟩:∃ l,hi = lo + l:=⟨hi - lo,by omega⟩
  subst hl;obtain ⟨q,hq⟩:∃ q,q = l / 4:=⟨_,rfl⟩;obtain ⟨i,hi⟩:∃ i,i = lo + q:=⟨_,rfl⟩;obtain ⟨j,hj⟩:∃ j,j = lo + q * 2:=⟨_,rfl⟩;obtain ⟨kk,hk⟩:∃ kk,kk = lo + q * 3:=⟨_,rfl⟩;have hwl:IntKind.i64.wrap (((lo + l:Nat):Int) - (lo:Int)) = (l:Int):=by rw [IntWalk.i64_in _ (by omega)]; omega
  have hq':IntKind.i64.wrap ((l:Int).tdiv 4) = (q:Int):=by rw [Int.tdiv_eq_ediv_of_nonneg (by omega),IntWalk.i64_in _ (by omega)]; omega
  have hwi:IntKind.i64.wrap ((lo:Int) + IntKind.i64.wrap ((q:Int) * 1)) = (i:Int):=by rw [IntWalk.i64_in ((q:Int) * 1) (by omega),IntWalk.i64_in _ (by omega)]; omega
  have hwj:IntKind.i64.wrap ((lo:Int) + IntKind.i64.wrap ((q:Int) * 2)) = (j:Int):=by rw [IntWalk.i64_in ((q:Int) * 2) (by omega),IntWalk.i64_in _ (by omega)]; omega
  have hwk:IntKind.i64.wrap ((lo:Int) + IntKind.i64.wrap ((q:Int) * 3)) = (kk:Int):=by rw [IntWalk.i64_in ((q:Int) * 3) (by omega),IntWalk.i64_in _ (by omega)]; omega
  have d4:¬ ((4:Int) = 0):=by decide
  by_cases h8:8 ≤ l
  case neg =>
    have h8':¬ (8:Int) ≤ (l:Int):=by omega
    obtain ⟨hd1,⟨n,ho⟩,_,_,_⟩:=h0;have rd:Hn.read H.size 0 1 = some [.int .i64 n]:=by
      have:=ho.read (o:=0) (n:=1) (by simp)
      simpa using this
    have hpost:∀ h:Int,PostVI HB b r k d lo (lo + l) H (.tuple ⟨[.int .i64 (j:Int),.int .i64 h]⟩) Hn:=fun h => ⟨⟨j,h,by omega,by omega,rfl⟩,hd1,hs0⟩
    clear hd hd1 ho hq hi hj hk;refine Zaba Try.func88 rfl (Nat.le_of_ble_eq_true rfl) (hS.no rfl _ _) ?_
    rw [Try.ntmps88,Try.results88]
    repeat' (first | (with_reducible refine sxGuardB_tsp (fun h => ?_) (fun h => ?_)) | (with_reducible refine sxGuardB_fsp (fun h => ?_) (fun h => ?_)) | (with_reducible refine sxIfB_sp (fun h => ?_) (fun h => ?_)) | simp only [↓Zaca,↓Zabx,↓Zabz,↓Zaai,↓Zabu,↓Zaby,↓Zacw,↓Zacv,↓Zadb,↓Zaau,↓Zaam,↓Zaal,↓Zaat,↓Zaan,↓Zaay,↓bxPut,↓Zabs,↓Zaah,↓Zabq,↓Zacz,↓Zada,↓Zadc,↓Zabg,↓Zabe,↓Zabf,Zacx,Zaae,Zabi,Zacb,Zact,Zabn,List.nil_append,↓reduceIte,Nat.reduceEqDiff,Nat.reduceLT,dec_F,one1,Option.bind_some,ne_eq,not_false_eq_true, *,argF,List.getD_cons_zero,List.getD_cons_succ,ldCI,one1])
  have h8':(8:Int) ≤ (l:Int):=by omega
  by_cases h50:50 ≤ l
  case neg =>
    have h50':¬ (50:Int) ≤ (l:Int):=by omega
    obtain ⟨u1,H1,hR1,⟨p,hp,rfl⟩,ht,hs1⟩:=medI_runs hS hc hLB (c:=c) d H.size i j kk Hn h0 hV (by omega) (by omega) (by omega)
    have f1:=hR1.bx;obtain ⟨hd1,⟨n,ho⟩,_,_,_⟩:=ht;have rd:H1.read H.size 0 1 = some [.int .i64 n]:=by
      have:=ho.read (o:=0) (n:=1) (by simp)
      simpa using this
    have hpost:∀ h:Int,PostVI HB b r k d lo (lo + l) H (.tuple ⟨[.int .i64 (p:Int),.int .i64 h]⟩) H1:=fun h => ⟨⟨p,h,by omega,by omega,rfl⟩,hd1,by omega⟩
    clear hd hd1 ho hq hi hj hk hR1 h0 hp;refine Zaba Try.func88 rfl (Nat.le_of_ble_eq_true rfl) (hS.no rfl _ _) ?_
    rw [Try.ntmps88,Try.results88]
    repeat' (first | (with_reducible refine sxGuardB_tsp (fun h => ?_) (fun h => ?_)) | (with_reducible refine sxGuardB_fsp (fun h => ?_) (fun h => ?_)) | (with_reducible refine sxIfB_sp (fun h => ?_) (fun h => ?_)) | simp only [↓Zaca,↓Zabx,↓Zabz,↓Zaai,↓Zabu,↓Zaby,↓Zacw,↓Zacv,↓Zadb,↓Zaau,↓Zaam,↓Zaal,↓Zaat,↓Zaan,↓Zaay,↓bxPut,↓Zabs,↓Zaah,↓Zabq,↓Zacz,↓Zada,↓Zadc,↓Zabg,↓Zabe,↓Zabf,Zacx,Zaae,Zabi,Zacb,Zacu,Zact,Zabn,List.map,List.nil_append,List.append_nil,↓reduceIte,Nat.reduceEqDiff,Nat.reduceLT,dec_T,dec_F,one1,Option.bind_some,ne_eq,not_false_eq_true, *,argF,List.getD_cons_zero,List.getD_cons_succ,ldCI,one1])
  have h50':(50:Int) ≤ (l:Int):=by omega
  obtain ⟨u1,H1,hR1,⟨p1,hp1,rfl⟩,ht1,hs1⟩:=madjI_runs hS hc hLB (c:=c) d H.size i Hn h0 hV (by omega) (by omega) hm
  have b1:lo ≤ p1 ∧ p1 < lo + l:=by omega
  clear hp1;obtain ⟨u2,H2,hR2,⟨p2,hp2,rfl⟩,ht2,hs2⟩:=madjI_runs hS hc hLB (c:=c) d H.size j H1 ht1 hV (by omega) (by omega) hm
  have b2:lo ≤ p2 ∧ p2 < lo + l:=by omega
  clear hp2;obtain ⟨u3,H3,hR3,⟨p3,hp3,rfl⟩,ht3,hs3⟩:=madjI_runs hS hc hLB (c:=c) d H.size kk H2 ht2 hV (by omega) (by omega) hm
  have b3:lo ≤ p3 ∧ p3 < lo + l:=by omega
  clear hp3;obtain ⟨u4,H4,hR4,⟨p,hp,rfl⟩,ht,hs4⟩:=medI_runs hS hc hLB (c:=c) d H.size p1 p2 p3 H3 ht3 hV (by omega) (by omega) (by omega)
  have b4:lo ≤ p ∧ p < lo + l:=by omega
  have hsz4:H.size ≤ H4.size:=by omega
  have f1:=hR1.bx;have f2:=hR2.bx;have f3:=hR3.bx;have f4:=hR4.bx;obtain ⟨hd1,⟨n,ho⟩,_,_,_⟩:=ht;have rd:H4.read H.size 0 1 = some [.int .i64 n]:=by
    have:=ho.read (o:=0) (n:=1) (by simp)
    simpa using this
  have hpost:∀ h:Int,PostVI HB b r k d lo (lo + l) H (.tuple ⟨[.int .i64 (p:Int),.int .i64 h]⟩) H4:=fun h => ⟨⟨p,h,b4.1,b4.2,rfl⟩,hd1,hsz4⟩
  clear hd hd1 ho hq hi hj hk hR1 hR2 hR3 hR4 h0 ht1 ht2 ht3 hp;refine Zaba Try.func88 rfl (Nat.le_of_ble_eq_true rfl) (hS.no rfl _ _) ?_
  rw [Try.ntmps88,Try.results88]
  repeat' (first | (with_reducible refine sxGuardB_tsp (fun h => ?_) (fun h => ?_)) | (with_reducible refine sxGuardB_fsp (fun h => ?_) (fun h => ?_)) | (with_reducible refine sxIfB_sp (fun h => ?_) (fun h => ?_)) | simp only [↓Zaca,↓Zabx,↓Zabz,↓Zaai,↓Zabu,↓Zaby,↓Zacw,↓Zacv,↓Zadb,↓Zaau,↓Zaam,↓Zaal,↓Zaat,↓Zaan,↓Zaay,↓bxPut,↓Zabs,↓Zaah,↓Zabq,↓Zacz,↓Zada,↓Zadc,↓Zabg,↓Zabe,↓Zabf,Zacx,Zaae,Zabi,Zacb,Zacu,Zabn,List.map,List.nil_append,List.append_nil,↓reduceIte,Nat.reduceEqDiff,Nat.reduceLT,dec_T,one1,Option.bind_some,ne_eq,not_false_eq_true, *,argF,List.getD_cons_zero,List.getD_cons_succ,ldCI,one1])
end Go.Proofs.Yteechkbnccpicaa

namespace Go.Proofs.Yteechkbnccpicaa
open Go Go.AM
set_option maxRecDepth 10000
def PostBI (HB:Base) (b r:Nat) (k:Bool) (V:Int → Prop) (lo hi:Nat) (d:Array Int) (H H':Heap):Prop:=∃ d',Sort.PermIn lo hi d d' ∧ AllI V d' ∧ d'.size = d.size ∧ SaI HB H' b r k d' ∧ H.size ≤ H'.size
theorem and_leI (z:Int) (m:Nat) (hm:m < 18446744073709551616):((BitVec.ofInt IntKind.u64.bits z &&& BitVec.ofInt IntKind.u64.bits (m:Int)).toNat) ≤ m:=by
  have h1:(BitVec.ofInt IntKind.u64.bits (m:Int)).toNat = m:=by
    rw [BitVec.toNat_ofInt];show (((m:Int)) % 18446744073709551616).toNat = m;omega
  rw [BitVec.toNat_and,h1];exact Nat.and_le_right
variable {S:AM.Sys} (hS:Only S 11) {HB:Base} {V:Int → Prop} (hLB:HB.low ≤ HB.size) {b r c:Nat} {k:Bool}
include hS hLB

set_option maxHeartbeats 2000000 in
theorem brkI_runs (f:Value) (d:Array Int) (lo hi:Nat) (H:Heap) (hd:SaI HB H b r k d) (hV:AllI V d) (h1:lo < hi) (h2:hi ≤ d.size) (hm:d.size ≤ 60000) :
    ∃ u H',Runs Try.prog S (.fn 87) [.slice (some ⟨r,0,none⟩) d.size c,.int .i64 (lo:Int),.int .i64 (hi:Int),f] H u H' ∧ PostBI HB b r k V lo hi d H H':=by
  suffices h:WCall Try.prog S (.fn 87) [.slice (some ⟨r,0,none⟩) d.size c,.int .i64 (lo:Int),.int .i64 (hi:Int),f] H (fun u H' => PostBI HB b r k V lo hi d H H') by
    obtain ⟨u,H',hr,h⟩:=h; exact ⟨u,H',hr,h⟩
  have hmx:Go.maxLen = 9223372036854775807:=rfl;obtain ⟨l,hl⟩:∃ l,hi = lo + l:=⟨hi - lo,by omega⟩
  subst hl;have hwl:IntKind.i64.wrap (((lo + l:Nat):Int) - (lo:Int)) = (l:Int):=by rw [IntWalk.i64_in _ (by omega)]; omega
  by_cases h8:8 ≤ l
  case neg =>
    have h8':¬ (8:Int) ≤ (l:Int):=by omega
    have hpost:PostBI HB b r k V lo (lo + l) d H H:=⟨d,Sort.permIn_refl _ _ _,hV,rfl,hd,Nat.le_refl _⟩;refine Zaba Try.func87 rfl (Nat.le_of_ble_eq_true rfl) (hS.no rfl _ _) ?_
    rw [Try.ntmps87,Try.results87];clear hd hV
    repeat' simp only [↓Zaca,↓Zabx,↓Zabz,↓Zaai,↓Zaaj,↓Zabu,↓Zacw,↓Zacv,↓Zadb,↓Zaau,↓Zaam,↓Zaal,↓Zaaw,↓Zaan,↓Zaay,↓bxOp_convert,↓Zacy,↓bxPut,↓Zabs,↓Zabp,↓Zacz,↓Zadc,↓Zabg,↓Zabe,↓Zabf,Zacx,Zaae,Zabi,Zacb,Zact,List.nil_append,↓reduceIte,Nat.reduceEqDiff,Nat.reduceLT,dec_F, *,argF,List.getD_cons_zero,List.getD_cons_succ]
  have h8':(8:Int) ≤ (l:Int):=by omega
  have hL1:=hd.lowS hLB;have d4:¬ ((4:Int) = 0):=by decide
  obtain ⟨q,hq⟩:∃ q,q = lo + l / 4 * 2:=⟨_,rfl⟩;have hq1:lo + 4 ≤ q:=by omega
  have hq2:q + 1 < lo + l:=by omega
  have hwq:IntKind.i64.wrap ((lo:Int) + IntKind.i64.wrap (IntKind.i64.wrap ((l:Int).tdiv 4) * 2)) = (q:Int):=by
    rw [Int.tdiv_eq_ediv_of_nonneg (by omega),IntWalk.i64_in ((l:Int) / 4) (by omega),IntWalk.i64_in ((l:Int) / 4 * 2) (by omega),IntWalk.i64_in _ (by omega)]; omega
  have hwq1:IntKind.i64.wrap ((q:Int) - 1) = ((q - 1:Nat):Int):=by rw [IntWalk.i64_in _ (by omega)]; omega
  have hwq2:IntKind.i64.wrap ((q:Int) + 1) = ((q + 1:Nat):Int):=by rw [IntWalk.i64_in _ (by omega)]; omega
  clear hq;have alx:aAlloc Try.prog H 136 = some (.pointer (some ⟨H.size,0,none⟩),H.newExact [.int .u64 0] 136):=by kernel_rfl
  have cvx:∀ z:Int,aConv Try.prog 3 136 (.int .i64 z) = some (.int .u64 (IntKind.u64.wrap z)):=fun z => by kernel_rfl
  have cvui:∀ z:Int,aConv Try.prog 108 3 (.int .u64 z) = some (.int .i64 (IntKind.i64.wrap z)):=fun z => by kernel_rfl
  have hwx:IntKind.u64.wrap (l:Int) = (l:Int):=IntWalk.u64_in _ (by omega)
  have hkn:=Keep.newExact H [.int .u64 0] 136;have hon:=Own.new H [.int .u64 0] 136;have hi:∃ i,Try.prog.info? 136 = some i ∧ i.size = 1:=Option.map_eq_some_iff.1 (show (Try.prog.info? 136).map (·.size) = some 1 by kernel_rfl)
  obtain ⟨inf,hi,hs⟩:=hi;obtain ⟨H2,s2,ho2,hk2,hz2⟩:=hon.storeX (o:=0) (t:=136) hi (v:=.int .u64 (l:Int)) (new:=[.int .u64 (l:Int)]) rfl hs rfl (by simp)
  have ho2:Own H2 H.size 136 [.int .u64 (l:Int)]:=by simpa [splice] using ho2
  have hne:H.size ≠ r:=by have:=hd.lt; omega
  have hle:HB.size ≤ H.size:=hd.keep.size;have hsd:∀ x ∈ HB.side,x.1 ≠ H.size:=fun x hx => by have:=(hd.side x hx).1.lt; omega
  have hd2:SaI HB H2 b r k d:=(hd.kept hkn).other hon hk2 hle hne hsd;have hHs2:H.size ≤ H2.size:=by rw [hz2,size_new]; omega
  have fn:=(nextPow_runs hS l (by omega) H2).bx
  have hp2:=Sort.two_pow_bitsLen_le (show 0 < l by omega)
  obtain ⟨M,hM⟩:∃ M,M = 2 ^ Sort.bitsLen l:=⟨_,rfl⟩;rw [← hM] at fn hp2;have hM1:1 ≤ M:=by rw [hM]; exact Nat.pow_pos (by decide)
  have hwM:IntKind.u64.wrap ((M:Int) - 1) = ((M - 1:Nat):Int):=by rw [IntWalk.u64_in _ (by omega)]; omega
  clear hM hon hkn hk2 hz2;refine Zaba Try.func87 rfl (Nat.le_of_ble_eq_true rfl) (hS.no rfl _ _) ?_
  rw [Try.ntmps87,Try.results87]
  repeat' simp only [↓Zaca,↓Zabx,↓Zabz,↓Zaai,↓Zaaj,↓Zabu,↓Zacw,↓Zacv,↓Zadb,↓Zaau,↓Zaam,↓Zaal,↓Zaaw,↓Zaan,↓Zaay,↓bxOp_convert,↓Zacy,↓bxPut,↓Zabs,↓Zabp,↓Zacz,↓Zadc,↓Zabg,↓Zabe,↓Zabf,aConvH_int,Zacx,Zaae,Zabi,Zacb,Zacu,List.map,List.nil_append,List.append_nil,↓reduceIte,Nat.reduceEqDiff,Nat.reduceLT,dec_T,ne_eq,not_false_eq_true, *,argF,List.getD_cons_zero,List.getD_cons_succ]
  refine sxL_of (fun m ρ H1 => ∃ (i:Nat) (d1:Array Int) (z:Int),m = q + 2 - i ∧ q - 1 ≤ i ∧ i ≤ q + 2 ∧ Sort.PermIn lo (lo + l) d d1 ∧ AllI V d1 ∧ d1.size = d.size ∧ SaI HB H1 b r k d1 ∧ H.size ≤ H1.size ∧ Own H1 H.size 136 [.int .u64 z] ∧
      ρ 0 = .slice (some ⟨r,0,none⟩) d.size c ∧ ρ 1 = .int .i64 (lo:Int) ∧ ρ 8 = .int .i64 (l:Int) ∧ ρ 9 = .pointer (some ⟨H.size,0,none⟩) ∧ ρ 10 = .int .u64 (M:Int) ∧ ρ 11 = .int .i64 (i:Int))
    ⟨q - 1,d,l,rfl,Nat.le_refl _,by omega,Sort.permIn_refl _ _ _,hV,rfl,hd2,hHs2,ho2,rfl,rfl,rfl,rfl,rfl,rfl⟩ ?_
  clear hd hV hd2 ho2 hHs2 fn s2 alx hi hs;rintro m ρ H1 ⟨i,d1,z,rfl,hi1,hi2,hpm,hV,hsz,hd,hHs,ho,e0,e1,e8,e9,e10,e11⟩
  by_cases hiq:i ≤ q + 1
  case neg =>
    have hn:¬ (i:Int) ≤ ((q + 1:Nat):Int):=by omega
    have hpost:PostBI HB b r k V lo (lo + l) d H H1:=⟨d1,hpm,hV,hsz,hd,hHs⟩;clear hpm hV hd ho
    repeat' (first | simp only [↓Zaca,↓Zabv,↓Zabx,↓Zabz,↓Zaai,↓Zabu,↓Zabw,↓Zacw,↓Zacv,↓Zaco,↓Zaak,↓Zacj,↓Zaci,↓Zace,↓Zach,↓Zadb,↓Zaau,↓Zaam,↓Zaat,↓Zaaw,↓Zaan,↓Zaar,↓Zaay,↓bxOp_convert,↓Zacy,↓bxPut,↓Zabs,↓Zabr,↓Zaag,↓Zaaf,↓Zabk,↓Zabj,↓Zabp,↓Zacz,↓Zadc,↓Zabg,↓Zabe,↓Zabf,Zacx,Zaae,Zabi,Zacb,Zact,List.nil_append,↓reduceIte,Nat.reduceEqDiff,Nat.reduceLT,dec_F,ne_eq,not_false_eq_true, *] | (with_reducible first | refine Zacd (by assumption) (by decide +kernel) ?_ | refine Zacc (by decide +kernel) ?_ | refine Zacm (by decide +kernel) ?_ | refine Zacf ?_))
  have hp:(i:Int) ≤ ((q + 1:Nat):Int):=by omega
  have hxn:=xorNext_runs hS z H.size H1 ho (hd.lowS hLB);obtain ⟨z',H3,hR3,ho3,hk3⟩:=hxn;have f3:=hR3.bx;have hd3:SaI HB H3 b r k d1:=hd.other ho hk3 hle hne hsd;have hL3:=hd3.lowS hLB;have hHs3:=Nat.le_trans hHs hk3.size;have hal:=and_leI z' (M - 1) (by omega)
  have hog:∃ o1,o1 = ((BitVec.ofInt IntKind.u64.bits z' &&& BitVec.ofInt IntKind.u64.bits (((M - 1:Nat)):Int)).toNat):=⟨_,rfl⟩;obtain ⟨o1,ho1⟩:=hog;rw [← ho1] at hal;have hwo:IntKind.i64.wrap (IntKind.u64.wrap (((BitVec.ofInt IntKind.u64.bits z' &&& BitVec.ofInt IntKind.u64.bits (((M - 1:Nat)):Int)).toNat:Nat):Int)) = (o1:Int):=by
    rw [← ho1,IntWalk.u64_in _ (by omega),IntWalk.i64_in _ (by omega)]
  have hwi:IntKind.i64.wrap ((i:Int) + 1) = ((i + 1:Nat):Int):=by rw [IntWalk.i64_in _ (by omega)]; omega
  clear ho1 hR3 hd ho hHs
  by_cases hol:l ≤ o1
  · have hol':(l:Int) ≤ (o1:Int):=by omega
    have hwo2:IntKind.i64.wrap ((o1:Int) - (l:Int)) = ((o1 - l:Nat):Int):=by rw [IntWalk.i64_in _ (by omega)]; omega
    have hwp:IntKind.i64.wrap ((lo:Int) + (((o1 - l):Nat):Int)) = ((lo + (o1 - l):Nat):Int):=by rw [IntWalk.i64_in _ (by omega)]; omega
    have hFa:i < d1.size:=by omega
    have hFb:lo + (o1 - l) < d1.size:=by omega
    have hix0:Zaaa Try.prog 25 (.slice (some ⟨r,0,none⟩) d.size c) (.int .i64 (i:Int)) = _:=ixAtI (by omega)
    have hix1:Zaaa Try.prog 25 (.slice (some ⟨r,0,none⟩) d.size c) (.int .i64 ((lo + (o1 - l):Nat):Int)) = _:=ixAtI (by omega)
    have l0:=ldAtI hd3 hFa;have l1:=ldAtI hd3 hFb;have hsw:=swDXI hLB hd3 ho3 (Ne.symm hne) hFa hFb;obtain ⟨H6,H7,H8,H9,hs6,he6,hs7,he7,hd7,hz7,hL9,hL7,ho9⟩:=hsw;have hV7:=hV.swp hFa hFb;have hsz7:=(swp_szI d1 i (lo + (o1 - l))).trans hsz;have hpm7:=Sort.permIn_trans _ _ _ _ _ hpm (Sort.swp_permIn d1 lo (lo + l) i (lo + (o1 - l)) (by omega) (by omega) (by omega) (by omega) (by omega))
    have hHs9:H.size ≤ H9.size:=by rw [hz7]; exact hHs3
    have hmm:q + 2 - (i + 1) < q + 2 - i:=by omega
    clear hV hsz hpm hd3 ho3 hk3 hal
    repeat' (first | simp only [↓Zaca,↓Zabv,↓Zabx,↓Zabz,↓Zaai,↓Zabu,↓Zabw,↓Zacw,↓Zacv,↓Zaco,↓Zaak,↓Zacj,↓Zaci,↓Zace,↓Zach,↓Zacn,↓Zadb,↓Zaau,↓Zaam,↓Zaat,↓Zaaw,↓Zaan,↓Zaar,↓Zaay,↓bxOp_convert,↓Zacy,↓bxPut,↓Zabs,↓Zabr,↓Zaag,↓Zaaf,↓Zabk,↓Zabj,↓Zabp,↓Zacz,↓Zadc,↓Zabg,↓Zabe,↓Zabf,aConvH_int,Zacx,Zaae,Zabi,Zacb,Zacu,List.map,List.nil_append,List.append_nil,↓reduceIte,Nat.reduceEqDiff,Nat.reduceLT,dec_T,true_and,Zaab,ne_eq,not_false_eq_true, *] | (with_reducible first | refine Zacd (by assumption) (by decide +kernel) ?_ | refine Zacc (by decide +kernel) ?_ | refine Zacm (by decide +kernel) ?_ | refine Zacf ?_))
    exact ⟨q + 2 - (i + 1),hmm,i + 1,Sort.swp d1 i (lo + (o1 - l)),z',rfl,by omega,by omega,hpm7,hV7,hsz7,hd7,ho9,rfl⟩
  · have hol':¬ (l:Int) ≤ (o1:Int):=by omega
    have hwp:IntKind.i64.wrap ((lo:Int) + ((o1:Nat):Int)) = ((lo + o1:Nat):Int):=by rw [IntWalk.i64_in _ (by omega)]; omega
    have hFa:i < d1.size:=by omega
    have hFb:lo + o1 < d1.size:=by omega
    have hix0:Zaaa Try.prog 25 (.slice (some ⟨r,0,none⟩) d.size c) (.int .i64 (i:Int)) = _:=ixAtI (by omega)
    have hix1:Zaaa Try.prog 25 (.slice (some ⟨r,0,none⟩) d.size c) (.int .i64 ((lo + o1:Nat):Int)) = _:=ixAtI (by omega)
    have l0:=ldAtI hd3 hFa;have l1:=ldAtI hd3 hFb;have hsw:=swDXI hLB hd3 ho3 (Ne.symm hne) hFa hFb;obtain ⟨H6,H7,H8,H9,hs6,he6,hs7,he7,hd7,hz7,hL9,hL7,ho9⟩:=hsw;have hV7:=hV.swp hFa hFb;have hsz7:=(swp_szI d1 i (lo + o1)).trans hsz;have hpm7:=Sort.permIn_trans _ _ _ _ _ hpm (Sort.swp_permIn d1 lo (lo + l) i (lo + o1) (by omega) (by omega) (by omega) (by omega) (by omega))
    have hHs9:H.size ≤ H9.size:=by rw [hz7]; exact hHs3
    have hmm:q + 2 - (i + 1) < q + 2 - i:=by omega
    clear hV hsz hpm hd3 ho3 hk3 hal
    repeat' (first | simp only [↓Zaca,↓Zabv,↓Zabx,↓Zabz,↓Zaai,↓Zabu,↓Zabw,↓Zacw,↓Zacv,↓Zaco,↓Zaak,↓Zacj,↓Zaci,↓Zace,↓Zach,↓Zacn,↓Zadb,↓Zaau,↓Zaam,↓Zaat,↓Zaaw,↓Zaan,↓Zaar,↓Zaay,↓bxOp_convert,↓Zacy,↓bxPut,↓Zabs,↓Zabr,↓Zaag,↓Zaaf,↓Zabk,↓Zabj,↓Zabp,↓Zacz,↓Zadc,↓Zabg,↓Zabe,↓Zabf,aConvH_int,Zacx,Zaae,Zabi,Zacb,Zacu,Zact,List.map,List.nil_append,List.append_nil,↓reduceIte,Nat.reduceEqDiff,Nat.reduceLT,dec_T,dec_F,true_and,Zaab,ne_eq,not_false_eq_true, *] | (with_reducible first | refine Zacd (by assumption) (by decide +kernel) ?_ | refine Zacc (by decide +kernel) ?_ | refine Zacm (by decide +kernel) ?_ | refine Zacf ?_))
    exact ⟨q + 2 - (i + 1),hmm,i + 1,Sort.swp d1 i (lo + o1),z',rfl,by omega,by omega,hpm7,hV7,hsz7,hd7,ho9,rfl⟩
end Go.Proofs.Yteechkbnccpicaa

namespace Go.Proofs.Yteechkbnccpicaa
open Go Go.AM
set_option maxRecDepth 10000
def ContI (lt:Int → Int → Bool) (lo hi:Nat) (d:Array Int) (a e:Nat) (d1:Array Int):Prop:=∀ R,Sort.PermIn a e d1 R → Sort.SortedIn lt a e R → Sort.PermIn lo hi d R ∧ Sort.SortedIn lt lo hi R
structure PSI (HB:Base) (b r:Nat) (k:Bool) (V:Int → Prop) (lt:Int → Int → Bool) (lo hi:Nat) (d:Array Int) (H0:Heap) (a e:Nat) (d1:Array Int) (H1:Heap):Prop where
  ae:a ≤ e
  es:e ≤ d.size
  below:Sort.Below lt a e d1
  all:AllI V d1
  sz:d1.size = d.size
  arr:SaI HB H1 b r k d1
  hs:H0.size ≤ H1.size
  cont:ContI lt lo hi d a e d1
def DoneI (HB:Base) (b r:Nat) (k:Bool) (V:Int → Prop) (lt:Int → Int → Bool) (lo hi:Nat) (d:Array Int) (H0 H1:Heap):Prop:=
  ∃ R,Sort.PermIn lo hi d R ∧ Sort.SortedIn lt lo hi R ∧ AllI V R ∧ R.size = d.size ∧ SaI HB H1 b r k R ∧ H0.size ≤ H1.size
theorem all_permI {V:Int → Prop} {a e:Nat} {d d':Array Int} (h:AllI V d) (he:e ≤ d.size) (hp:Sort.PermIn a e d d'):AllI V d':=fun i hi => by
  have hi':i < d.size:=by rw [← hp.1]; exact hi
  by_cases h1:a ≤ i ∧ i < e
  · exact Sort.permIn_all d d' a e V he hp (fun j _ hj => h j (by omega)) i h1.1 h1.2
  · rw [hp.2.1 i (by omega)]; exact h i hi'
section
variable {HB:Base} {b r:Nat} {k:Bool} {V:Int → Prop} {lt:Int → Int → Bool} {lo hi:Nat} {d:Array Int} {H0:Heap} {a e:Nat} {d1 d2:Array Int} {H1 H2:Heap}
theorem PSI.e1 (h:PSI HB b r k V lt lo hi d H0 a e d1 H1):e ≤ d1.size:=by rw [h.sz]; exact h.es
theorem PSI.perm (h:PSI HB b r k V lt lo hi d H0 a e d1 H1) (hp:Sort.PermIn a e d1 d2) (ha:SaI HB H2 b r k d2) (hs:H1.size ≤ H2.size):PSI HB b r k V lt lo hi d H0 a e d2 H2 where
  ae:=h.ae
  es:=h.es
  below:=h.below.perm h.e1 hp
  all:=all_permI h.all h.e1 hp
  sz:=hp.1.trans h.sz
  arr:=ha
  hs:=Nat.le_trans h.hs hs
  cont:=fun R h1 h2 => h.cont R (Sort.permIn_trans _ _ _ _ _ hp h1) h2
theorem PSI.done (h:PSI HB b r k V lt lo hi d H0 a e d1 H1) (hp:Sort.PermIn a e d1 d2) (hsrt:Sort.SortedIn lt a e d2) (ha:SaI HB H2 b r k d2) (hs:H1.size ≤ H2.size):DoneI HB b r k V lt lo hi d H0 H2:=by
  obtain ⟨h1,h2⟩:=h.cont d2 hp hsrt;exact ⟨d2,h1,h2,all_permI h.all h.e1 hp,hp.1.trans h.sz,ha,Nat.le_trans h.hs hs⟩
theorem PSI.ins (hw:Sort.SWO lt) (h:PSI HB b r k V lt lo hi d H0 a e d1 H1) (hp:PostII HB b r k lt d1 a e H1 H2):DoneI HB b r k V lt lo hi d H0 H2:=by
  obtain ⟨g1,g2⟩:=Sort.insertionSort_holds hw d1 a e h.ae h.e1;exact h.done g1 g2 hp.1 hp.2
theorem PSI.heap (hw:Sort.SWO lt) (h:PSI HB b r k V lt lo hi d H0 a e d1 H1) (hp:PostAI HB b r k (Sort.heapSort lt d1 a e) H1 H2):DoneI HB b r k V lt lo hi d H0 H2:=by
  obtain ⟨g1,g2⟩:=Sort.heapSort_holds hw d1 a e h.ae h.e1;exact h.done g1 g2 hp.1 hp.2
theorem PSI.brk (h:PSI HB b r k V lt lo hi d H0 a e d1 H1) (hp:PostBI HB b r k V a e d1 H1 H2):∃ d2,PSI HB b r k V lt lo hi d H0 a e d2 H2:=by
  obtain ⟨d2,h1,_,_,h4,h5⟩:=hp;exact ⟨d2,h.perm h1 h4 h5⟩
theorem PSI.rev (h:PSI HB b r k V lt lo hi d H0 a e d1 H1) (hp:PostRI HB b r k (Sort.reverseRange d1 a e) H1 H2):∃ d2,PSI HB b r k V lt lo hi d H0 a e d2 H2:=
  ⟨_,h.perm (Sort.reverseRange_holds d1 a e h.ae h.e1) hp.1 hp.2⟩
theorem PSI.pins (hw:Sort.SWO lt) (hlt:a < e) (h:PSI HB b r k V lt lo hi d H0 a e d1 H1) {u:Value} (hp:PostNI HB b r k (Sort.partialInsertionSort lt d1 a e) H1 u H2) :
    (u = .bool true ∧ DoneI HB b r k V lt lo hi d H0 H2) ∨ (u = .bool false ∧ ∃ d2,PSI HB b r k V lt lo hi d H0 a e d2 H2):=by
  obtain ⟨g1,g2⟩:=Sort.partialInsertionSort_holds hw d1 a e hlt h.e1 h.below;obtain ⟨p1,p2,p3⟩:=hp;cases hb:(Sort.partialInsertionSort lt d1 a e).2 with
  | true => rw [hb] at p1; exact .inl ⟨p1,h.done g1 (g2 hb) p2 p3⟩
  | false => rw [hb] at p1; exact .inr ⟨p1,_,h.perm g1 p2 p3⟩
theorem PSI.peq (hw:Sort.SWO lt) (h:PSI HB b r k V lt lo hi d H0 a e d1 H1) {p:Nat} (h0:0 < a) (hp1:a ≤ p) (hp2:p < e) (hn:lt d1[a - 1]! d1[p]! = false) {u:Value} (hp:PostEI HB b r k (Sort.partitionEqual lt d1 a e p) H1 u H2) :
    ∃ (mid:Nat) (d2:Array Int),u = .int .i64 (mid:Int) ∧ a < mid ∧ mid ≤ e ∧ PSI HB b r k V lt lo hi d H0 mid e d2 H2:=by
  obtain ⟨p1,p2,p3⟩:=hp
  have hsp:=(Sort.partitionEqual_holds lt) hw d1 a e p hp1 hp2 h.e1 (fun i hi hi' => by
    rcases h.below with hz | hB
    · omega
    · exact hw.ntrans _ _ _ (hB i hi hi') hn)
  obtain ⟨g1,g2,g3,g4,g5⟩:=Sort.round_eq hw (Sort.partitionEqual_holds lt) h0 hp1 hp2 h.e1 h.below hn (mid:=(Sort.partitionEqual lt d1 a e p).1) (d4:=(Sort.partitionEqual lt d1 a e p).2) rfl;refine ⟨_,_,p1,g1,g2,⟨g2,h.es,g4,all_permI h.all h.e1 hsp.2.2.1,g3.trans h.sz,p2,Nat.le_trans h.hs p3,fun R h1 h2 => ?_⟩⟩
  obtain ⟨q1,q2⟩:=g5 R h1 h2;exact h.cont R q1 q2
theorem PSI.part (hw:Sort.SWO lt) (h:PSI HB b r k V lt lo hi d H0 a e d1 H1) {p:Nat} (hp1:a ≤ p) (hp2:p < e) {u:Value} (hp:PostPI HB b r k (Sort.partition lt d1 a e p).1 (Sort.partition lt d1 a e p).2.2 H1 u H2) :
    ∃ (mid:Nat) (bb:Bool) (d2:Array Int),u = .tuple ⟨[.int .i64 (mid:Int),.bool bb]⟩ ∧ a ≤ mid ∧ mid < e ∧ d2.size = d.size ∧ AllI V d2 ∧ SaI HB H2 b r k d2 ∧ H0.size ≤ H2.size ∧ Sort.Below lt a mid d2 ∧ Sort.Below lt (mid + 1) e d2 ∧
      (∀ H3,DoneI HB b r k V lt a mid d2 H2 H3 → ∃ d3,PSI HB b r k V lt lo hi d H0 (mid + 1) e d3 H3) ∧ (∀ H3,DoneI HB b r k V lt (mid + 1) e d2 H2 H3 → ∃ d3,PSI HB b r k V lt lo hi d H0 a mid d3 H3):=by
  obtain ⟨⟨bb,hu⟩,p2,p3⟩:=hp;have hsp:=(Sort.partition_holds lt) hw d1 a e p hp1 hp2 h.e1;obtain ⟨g1,g2,g3,g4,g5,g6,g7⟩:=Sort.round_part hw (Sort.partition_holds lt) hp1 hp2 h.e1 h.below (mid:=(Sort.partition lt d1 a e p).1) (ap:=(Sort.partition lt d1 a e p).2.1) (d4:=(Sort.partition lt d1 a e p).2.2) rfl;have hes:=h.es;have hsz:=g3.trans h.sz;refine ⟨_,bb,_,hu,g1,g2,hsz,all_permI h.all h.e1 hsp.2.2.1,p2,Nat.le_trans h.hs p3,g4,g5,fun H3 hd => ?_,fun H3 hd => ?_⟩
  · obtain ⟨R,r1,r2,r3,r4,r5,r6⟩:=hd;obtain ⟨q1,q2⟩:=g6 R r1 r2
    exact ⟨R,by omega,h.es,q1,r3,r4.trans hsz,r5,Nat.le_trans h.hs (Nat.le_trans p3 r6),fun R' h1 h2 => by
      obtain ⟨q3,q4⟩:=q2 R' h1 h2
      exact h.cont R' q3 q4⟩
  · obtain ⟨R,r1,r2,r3,r4,r5,r6⟩:=hd;obtain ⟨q1,q2⟩:=g7 R r1 r2
    exact ⟨R,g1,by omega,q1,r3,r4.trans hsz,r5,Nat.le_trans h.hs (Nat.le_trans p3 r6),fun R' h1 h2 => by
      obtain ⟨q3,q4⟩:=q2 R' h1 h2
      exact h.cont R' q3 q4⟩
end
end Go.Proofs.Yteechkbnccpicaa
