/- The choice of a pivot: some place of the range. -/
import Derived.Test.YtmpbapffjapghaaS1P
set_option linter.unusedVariables false
set_option linter.unusedSimpArgs false
set_option linter.unusedSectionVars false

namespace Go.Proofs.Ytmpbapffjapghaa
open Go Go.AM
set_option maxRecDepth 10000
theorem ldCP (H:Heap) (r o:Nat):aLoad Try.prog H 3 (.pointer (some ⟨r,o,none⟩)) = (H.read r o 1).bind one1:=by kernel_rfl
theorem ncCP (a:Addr):aNilCheck (.pointer (some a)) = some (.pointer (some a)):=rfl
theorem exAP (a b:Value):aExtract (.tuple ⟨[a,b]⟩) 0 = some a:=by kernel_rfl
theorem exBP (a b:Value):aExtract (.tuple ⟨[a,b]⟩) 1 = some b:=by kernel_rfl
theorem alCP (H:Heap):aAlloc Try.prog H 3 = some (.pointer (some ⟨H.size,0,none⟩),H.newExact [.int .i64 0] 3):=by kernel_rfl
theorem infoCP:∃ i,Try.prog.info? 3 = some i ∧ i.size = 1:=Option.map_eq_some_iff.1 (show (Try.prog.info? 3).map (·.size) = some 1 by kernel_rfl)
theorem cmpKP {S:AM.Sys} {g:FuncId} {pre cs:List Value} {HB:Base} {V:(Int × Int) → Prop} {lt:(Int × Int) → (Int × Int) → Bool} (hc:CmpP S g pre cs HB V lt) (hLB:HB.low ≤ HB.size) {H:Heap} {b r:Nat} {k:Bool} {d:Array (Int × Int)} (h:SaP HB H b r k d) (hV:AllP V d) {i j:Nat} (hi:i < d.size) (hj:j < d.size) :
    ∃ (z:Int) (H4 H5:Heap),(∀ (K:Value → Heap → Prop) (bl:Blk K),sxCallB Try.prog S (.fn g) (pre ++ [celTwo.val d[i]!,celTwo.val d[j]!] ++ cs) (H.relow H.size) K bl = K (.int .i64 z) H4) ∧
      (∀ (all:List Oper) (n:Nat) (kk:Heap → Prop),sxD all n H H4 kk = kk H5) ∧ Keep H H5 ∧ H5.low ≤ H5.size:=by
  obtain ⟨z,H3,hK3,hz,hR3⟩:=hc (H.relow H.size) d[i]! d[j]! (h.keep.trans (Keep.relowS H)) (hV _ hi) (hV _ hj);obtain ⟨H4,H5,hK5,hL5,f5,hd5⟩:=drawn (h.keep.low hLB) ⟨H3,hK3,hR3⟩;exact ⟨z,H4,H5,f5,hd5,hK5,hL5⟩
structure TwoP (HB:Base) (H:Heap) (b r:Nat) (k:Bool) (s:Nat) (d:Array (Int × Int)):Prop where
  arr:SaP HB H b r k d
  own:∃ n,Own H s 3 [.int .i64 n]
  ne:s ≠ r
  le:HB.size ≤ s
  sd:∀ x ∈ HB.side,x.1 ≠ s
def PostOP (HB:Base) (b r:Nat) (k:Bool) (s:Nat) (d:Array (Int × Int)) (x y:Nat) (H:Heap) (u:Value) (H':Heap):Prop:=(u = .tuple ⟨[.int .i64 (x:Int),.int .i64 (y:Int)]⟩ ∨ u = .tuple ⟨[.int .i64 (y:Int),.int .i64 (x:Int)]⟩) ∧ TwoP HB H' b r k s d ∧ H.size ≤ H'.size
def PostMP (HB:Base) (b r:Nat) (k:Bool) (s:Nat) (d:Array (Int × Int)) (x y z:Nat) (H:Heap) (u:Value) (H':Heap):Prop:=(∃ p:Nat,(p = x ∨ p = y ∨ p = z) ∧ u = .int .i64 (p:Int)) ∧ TwoP HB H' b r k s d ∧ H.size ≤ H'.size
def PostVP (HB:Base) (b r:Nat) (k:Bool) (d:Array (Int × Int)) (lo hi:Nat) (H:Heap) (u:Value) (H':Heap):Prop:=(∃ (p:Nat) (h:Int),lo ≤ p ∧ p < hi ∧ u = .tuple ⟨[.int .i64 (p:Int),.int .i64 h]⟩) ∧ SaP HB H' b r k d ∧ H.size ≤ H'.size

variable {S:AM.Sys} (hS:Only S 5) {g:FuncId} {pre cs:List Value} {HB:Base} {V:(Int × Int) → Prop} {lt:(Int × Int) → (Int × Int) → Bool} (hc:CmpP S g pre cs HB V lt) (hLB:HB.low ≤ HB.size) {b r c:Nat} {k:Bool}
include hS hc hLB

theorem ord2P_runs (d:Array (Int × Int)) (s x y:Nat) (H:Heap) (h:TwoP HB H b r k s d) (hV:AllP V d) (h1:x < d.size) (h2:y < d.size) :
    ∃ u H',Runs Try.prog S (.fn 82) [.slice (some ⟨r,0,none⟩) d.size c,.int .i64 (x:Int),.int .i64 (y:Int),.pointer (some ⟨s,0,none⟩),.func (.func g) ⟨pre⟩ ⟨cs⟩] H u H' ∧ PostOP HB b r k s d x y H u H':=by
  suffices h:WCall Try.prog S (.fn 82) [.slice (some ⟨r,0,none⟩) d.size c,.int .i64 (x:Int),.int .i64 (y:Int),.pointer (some ⟨s,0,none⟩),.func (.func g) ⟨pre⟩ ⟨cs⟩] H (fun u H' => PostOP HB b r k s d x y H u H') by
    obtain ⟨u,H',hr,h⟩:=h; exact ⟨u,H',hr,h⟩
  obtain ⟨hd,⟨n,ho⟩,hne,hle,hsd⟩:=h;have hL1:=hd.lowS hLB;have hix0:Zaad Try.prog 40 (.slice (some ⟨r,0,none⟩) d.size c) (.int .i64 (x:Int)) = _:=ixAtP h1;have hix1:Zaad Try.prog 40 (.slice (some ⟨r,0,none⟩) d.size c) (.int .i64 (y:Int)) = _:=ixAtP h2;have l0:=ldAtP hd h1;have l1:=ldAtP hd h2;obtain ⟨z,Hb,H5,f5,g5,hK5,hL5⟩:=cmpKP hc hLB hd hV h2 h1;have hs5:=hK5.size;have hd5:=hd.kept hK5;have ho5:=ho.keep hK5;have rd5:H5.read s 0 1 = some [.int .i64 n]:=by
    have:=ho5.read (o:=0) (n:=1) (by simp)
    simpa using this
  obtain ⟨ic,hic,hicz⟩:=infoCP;obtain ⟨H6,f6,ho6,hk6,hz6⟩:=ho5.storeX (o:=0) (t:=3) hic (v:=.int .i64 (IntKind.i64.wrap (n + 1))) (new:=[.int .i64 (IntKind.i64.wrap (n + 1))]) rfl hicz rfl (by simp)
  have hd6:SaP HB H6 b r k d:=hd5.other ho5 hk6 hle hne hsd;have ho6':Own H6 s 3 [.int .i64 (IntKind.i64.wrap (n + 1))]:=by simpa [splice] using ho6
  have hp1:PostOP HB b r k s d x y H (.tuple ⟨[.int .i64 (x:Int),.int .i64 (y:Int)]⟩) H5:=⟨.inl rfl,⟨hd5,⟨n,ho5⟩,hne,hle,hsd⟩,hs5⟩;have hp2:PostOP HB b r k s d x y H (.tuple ⟨[.int .i64 (y:Int),.int .i64 (x:Int)]⟩) H6:=⟨.inr rfl,⟨hd6,⟨_,ho6'⟩,hne,hle,hsd⟩,by rw [hz6]; exact hs5⟩
  clear hd ho hd5 hd6 ho6 ho6' ho5 hk6 hz6;refine call_of Try.func82 rfl (Nat.le_of_ble_eq_true rfl) (hS.no rfl _ _) ?_
  rw [Try.ntmps82,Try.results82]
  repeat' (first | (with_reducible refine Zafd (fun h => ?_) (fun h => ?_)) | (with_reducible refine Zafa (fun h => ?_) (fun h => ?_)) | (with_reducible refine Zafh (fun h => ?_) (fun h => ?_)) | simp only [↓Zadl,↓Zadf,↓Zadi,↓Zadk,↓Zaas,↓Zadj,↓Zafk,↓Zafj,↓Zaey,↓Zaau,↓Zaeo,↓Zaeg,↓Zads,↓Zaee,↓Zaex,↓Zafq,↓Zabt,↓Zaay,↓Zabn,↓Zabx,↓Zabu,↓Zaaz,↓Zabl,↓Zabz,↓Zafn,↓bxPut,↓Zadb,↓Zadc,↓Zacy,↓Zafo,↓Zafp,↓Zafs,↓Zacj,↓Zacg,Zafm,Zaak,Zacm,Zadm,Zact,List.map,↓reduceIte,Nat.reduceEqDiff,Nat.reduceLT,Zaae,one1,Option.bind_some, *,argF,List.getD_cons_zero,List.getD_cons_succ,ncCP,ldCP,one1] | (with_reducible first | refine Zadr (by assumption) (by decide +kernel) ?_ | refine Zadq (by decide +kernel) ?_ | refine Zaew (by decide +kernel) ?_ | refine Zadw ?_))

theorem medP_runs (d:Array (Int × Int)) (s x y z:Nat) (H:Heap) (h:TwoP HB H b r k s d) (hV:AllP V d) (h1:x < d.size) (h2:y < d.size) (h3:z < d.size) :
    ∃ u H',Runs Try.prog S (.fn 72) [.slice (some ⟨r,0,none⟩) d.size c,.int .i64 (x:Int),.int .i64 (y:Int),.int .i64 (z:Int),.pointer (some ⟨s,0,none⟩),.func (.func g) ⟨pre⟩ ⟨cs⟩] H u H' ∧ PostMP HB b r k s d x y z H u H':=by
  suffices h:WCall Try.prog S (.fn 72) [.slice (some ⟨r,0,none⟩) d.size c,.int .i64 (x:Int),.int .i64 (y:Int),.int .i64 (z:Int),.pointer (some ⟨s,0,none⟩),.func (.func g) ⟨pre⟩ ⟨cs⟩] H (fun u H' => PostMP HB b r k s d x y z H u H') by
    obtain ⟨u,H',hr,h⟩:=h; exact ⟨u,H',hr,h⟩
  obtain ⟨u1,H1,hR1,hu1,ht1,hs1⟩:=ord2P_runs hS hc hLB (c:=c) d s x y H h hV h1 h2;obtain ⟨x1,y1,e1,hxy⟩:∃ x1 y1:Nat,u1 = .tuple ⟨[.int .i64 (x1:Int),.int .i64 (y1:Int)]⟩ ∧ ((x1 = x ∧ y1 = y) ∨ (x1 = y ∧ y1 = x)):=by
    rcases hu1 with e | e
    · exact ⟨x,y,e,.inl ⟨rfl,rfl⟩⟩
    · exact ⟨y,x,e,.inr ⟨rfl,rfl⟩⟩
  subst e1;obtain ⟨u2,H2,hR2,hu2,ht2,hs2⟩:=ord2P_runs hS hc hLB (c:=c) d s y1 z H1 ht1 hV (by omega) h3
  obtain ⟨y2,z2,e2,hyz⟩:∃ x1 y2:Nat,u2 = .tuple ⟨[.int .i64 (x1:Int),.int .i64 (y2:Int)]⟩ ∧ ((x1 = y1 ∧ y2 = z) ∨ (x1 = z ∧ y2 = y1)):=by
    rcases hu2 with e | e
    · exact ⟨y1,z,e,.inl ⟨rfl,rfl⟩⟩
    · exact ⟨z,y1,e,.inr ⟨rfl,rfl⟩⟩
  subst e2;obtain ⟨u3,H3,hR3,hu3,ht3,hs3⟩:=ord2P_runs hS hc hLB (c:=c) d s x1 y2 H2 ht2 hV (by omega) (by omega)
  obtain ⟨x3,y3,e3,hxy3⟩:∃ x3 y3:Nat,u3 = .tuple ⟨[.int .i64 (x3:Int),.int .i64 (y3:Int)]⟩ ∧ ((x3 = x1 ∧ y3 = y2) ∨ (x3 = y2 ∧ y3 = x1)):=by
    rcases hu3 with e | e
    · exact ⟨x1,y2,e,.inl ⟨rfl,rfl⟩⟩
    · exact ⟨y2,x1,e,.inr ⟨rfl,rfl⟩⟩
  subst e3;have f1:=hR1.bx;have f2:=hR2.bx;have f3:=hR3.bx;have hpost:PostMP HB b r k s d x y z H (.int .i64 (y3:Int)) H3:=⟨⟨y3,by omega,rfl⟩,ht3,by omega⟩
  clear hR1 hR2 hR3 hu1 hu2 hu3 hxy hyz hxy3;refine call_of Try.func72 rfl (Nat.le_of_ble_eq_true rfl) (hS.no rfl _ _) ?_
  rw [Try.ntmps72,Try.results72]
  repeat' (first | (with_reducible refine Zafd (fun h => ?_) (fun h => ?_)) | (with_reducible refine Zafa (fun h => ?_) (fun h => ?_)) | (with_reducible refine Zafh (fun h => ?_) (fun h => ?_)) | simp only [↓Zadi,↓Zadk,↓Zadj,↓Zafk,↓Zafj,↓Zafq,↓Zabt,↓Zaay,↓Zabh,↓Zabz,↓bxPut,↓Zadb,↓Zacy,↓Zafo,↓Zafp,↓Zafs,↓Zacj,↓Zacg,↓Zach,Zafm,Zadm,Zacs,List.map,List.nil_append,List.append_nil,↓reduceIte,Nat.reduceEqDiff,Nat.reduceLT, *,argF,List.getD_cons_zero,List.getD_cons_succ,exAP,exBP])

theorem madjP_runs (d:Array (Int × Int)) (s x:Nat) (H:Heap) (h:TwoP HB H b r k s d) (hV:AllP V d) (h1:1 ≤ x) (h2:x + 1 < d.size) (hm:d.size ≤ 100000000) :
    ∃ u H',Runs Try.prog S (.fn 71) [.slice (some ⟨r,0,none⟩) d.size c,.int .i64 (x:Int),.pointer (some ⟨s,0,none⟩),.func (.func g) ⟨pre⟩ ⟨cs⟩] H u H' ∧ PostMP HB b r k s d (x - 1) x (x + 1) H u H':=by
  suffices h:WCall Try.prog S (.fn 71) [.slice (some ⟨r,0,none⟩) d.size c,.int .i64 (x:Int),.pointer (some ⟨s,0,none⟩),.func (.func g) ⟨pre⟩ ⟨cs⟩] H (fun u H' => PostMP HB b r k s d (x - 1) x (x + 1) H u H') by
    obtain ⟨u,H',hr,h⟩:=h; exact ⟨u,H',hr,h⟩
  have hmx:Go.maxLen = 9223372036854775807:=rfl;obtain ⟨u1,H1,hR1,hp⟩:=medP_runs hS hc hLB (c:=c) d s (x - 1) x (x + 1) H h hV (by omega) (by omega) h2
  have f1:=hR1.bx;have hw1:IntKind.i64.wrap ((x:Int) - 1) = ((x - 1:Nat):Int):=by rw [IntWalk.i64_in _ (by omega)]; omega
  have hw2:IntKind.i64.wrap ((x:Int) + 1) = ((x + 1:Nat):Int):=by rw [IntWalk.i64_in _ (by omega)]; omega
  clear hR1;refine call_of Try.func71 rfl (Nat.le_of_ble_eq_true rfl) (hS.no rfl _ _) ?_
  rw [Try.ntmps71,Try.results71]
  repeat' (first | (with_reducible refine Zafd (fun h => ?_) (fun h => ?_)) | (with_reducible refine Zafa (fun h => ?_) (fun h => ?_)) | (with_reducible refine Zafh (fun h => ?_) (fun h => ?_)) | simp only [↓Zadi,↓Zadk,↓Zadj,↓Zafk,↓Zafj,↓Zafq,↓Zabt,↓Zaay,↓Zaaz,↓Zabz,↓bxPut,↓Zadb,↓Zacy,↓Zafo,↓Zafp,↓Zafs,↓Zacj,↓Zacg,↓Zach,Zafm,Zaak,Zacm,Zadm,Zacs,List.map,List.nil_append,List.append_nil,↓reduceIte,Nat.reduceEqDiff,Nat.reduceLT, *,argF,List.getD_cons_zero,List.getD_cons_succ])
end Go.Proofs.Ytmpbapffjapghaa
