/- Trails, by the program. -/
import Derived.Test.YtcmaipijkjillaaDoorK4
set_option linter.unusedVariables false
set_option linter.unusedSimpArgs false
set_option linter.unusedSectionVars false

namespace Go.Proofs.YtcmaipijkjillaaDoor
open Go Go.AM
set_option maxRecDepth 10000

theorem faT0 (r o:Nat):aFieldAt Tryd.prog 60 0 (.pointer (some ⟨r,o,none⟩)) = some (.pointer (some ⟨r,o,none⟩)):=by kernel_rfl
theorem faT1 (r o:Nat):aFieldAt Tryd.prog 60 1 (.pointer (some ⟨r,o,none⟩)) = some (.pointer (some ⟨r,o + 6,none⟩)):=by kernel_rfl
theorem faT2 (r o:Nat):aFieldAt Tryd.prog 60 2 (.pointer (some ⟨r,o,none⟩)) = some (.pointer (some ⟨r,o + 7,none⟩)):=by kernel_rfl
theorem faT3 (r o:Nat):aFieldAt Tryd.prog 60 3 (.pointer (some ⟨r,o,none⟩)) = some (.pointer (some ⟨r,o + 8,none⟩)):=by kernel_rfl
theorem faT4 (r o:Nat):aFieldAt Tryd.prog 60 4 (.pointer (some ⟨r,o,none⟩)) = some (.pointer (some ⟨r,o + 9,none⟩)):=by kernel_rfl
theorem faT5 (r o:Nat):aFieldAt Tryd.prog 60 5 (.pointer (some ⟨r,o,none⟩)) = some (.pointer (some ⟨r,o + 15,none⟩)):=by kernel_rfl
theorem faT6 (r o:Nat):aFieldAt Tryd.prog 60 6 (.pointer (some ⟨r,o,none⟩)) = some (.pointer (some ⟨r,o + 16,none⟩)):=by kernel_rfl
theorem ixA (r o:Nat) (k:IntKind) (i:Int):aIndexAt Tryd.prog 56 (.pointer (some ⟨r,o,none⟩)) (.int k i) = if 0 ≤ i ∧ i < 6 then some (.pointer (some ⟨r,o + i.toNat * 1,none⟩)) else none:=by kernel_rfl
theorem ixB (r o:Nat) (k:IntKind) (i:Int):aIndexAt Tryd.prog 57 (.pointer (some ⟨r,o,none⟩)) (.int k i) = if 0 ≤ i ∧ i < 6 then some (.pointer (some ⟨r,o + i.toNat * 1,none⟩)) else none:=by kernel_rfl
theorem ldT (H:Heap) (r o:Nat):aLoad Tryd.prog H 60 (.pointer (some ⟨r,o,none⟩)) = (H.read r o 18).map fun l => .agg ⟨l⟩:=by kernel_rfl
theorem ldBo (H:Heap) (r o:Nat):aLoad Tryd.prog H 4 (.pointer (some ⟨r,o,none⟩)) = (H.read r o 1).bind one1:=by kernel_rfl
theorem infT:Tryd.prog.info? 60 = some Tryd.t60 ∧ Tryd.t60.size = 18:=⟨by kernel_rfl,by kernel_rfl⟩
theorem infI:Tryd.prog.info? 3 = some Tryd.t3 ∧ Tryd.t3.size = 1:=⟨by kernel_rfl,by kernel_rfl⟩
theorem infB:Tryd.prog.info? 4 = some Tryd.t4 ∧ Tryd.t4.size = 1:=⟨by kernel_rfl,by kernel_rfl⟩
def trV (lst:List Int) (sz st en:Int) (rc:List Bool) (le rn rd:Int):List Value:=
  (lst.map fun z => Value.int .i64 z) ++ ([.int .i64 sz,.int .i64 st,.int .i64 en] ++ ((rc.map fun b => Value.bool b) ++ [.int .i64 le,.int .i64 rn,.int .i64 rd]))
def trZ:List Value:=trV (List.replicate 6 0) 0 0 0 (List.replicate 6 false) 0 0 0
theorem alT (H:Heap):aAlloc Tryd.prog H 60 = some (.pointer (some ⟨H.size,0,none⟩),H.newExact trZ 60):=by kernel_rfl
theorem bdT0:aBuild Tryd.prog 60 [] = some (.agg ⟨trZ⟩):=by kernel_rfl
theorem bdT (a b c d:Int):aBuild Tryd.prog 60 [(2,.int .i64 a),(3,.int .i64 b),(6,.agg ⟨[.int .i64 c,.int .i64 d]⟩)] = some (.agg ⟨trV (List.replicate 6 0) 0 a b (List.replicate 6 false) 0 c d⟩):=by kernel_rfl
theorem six {α:Type} {l:List α} (h:l.length = 6):∃ x0 x1 x2 x3 x4 x5,l = [x0,x1,x2,x3,x4,x5]:=by
  match l,h with
  | [x0,x1,x2,x3,x4,x5],_ => exact ⟨_,_,_,_,_,_,rfl⟩
section tr
variable {lst:List Int} {sz st en le rn rd:Int} {rc:List Bool} (hl:lst.length = 6) (hr:rc.length = 6)
include hl hr
theorem trV_len:(trV lst sz st en rc le rn rd).length = 18:=by
  obtain ⟨_,_,_,_,_,_,rfl⟩:=six hl;obtain ⟨_,_,_,_,_,_,rfl⟩:=six hr;rfl
theorem tr_reads {X:Heap} {r:Nat} {t:TypeId} (h:Own X r t (trV lst sz st en rc le rn rd)):X.read r 0 18 = some (trV lst sz st en rc le rn rd) ∧ X.read r 6 1 = some [.int .i64 sz] ∧ X.read r 7 1 = some [.int .i64 st] ∧ X.read r 8 1 = some [.int .i64 en] ∧ X.read r 15 1 = some [.int .i64 le] ∧ X.read r 16 2 = some [.int .i64 rn,.int .i64 rd] ∧
    ∀ c:Nat,c < 6 → X.read r (9 + c) 1 = some [.bool (rc.getD c false)]:=by
  obtain ⟨_,_,_,_,_,_,rfl⟩:=six hl;obtain ⟨_,_,_,_,_,_,rfl⟩:=six hr;refine ⟨h.read (o:=0) (n:=18) (Nat.le_refl 18),h.read (o:=6) (n:=1) (show 7 ≤ 18 by decide),h.read (o:=7) (n:=1) (show 8 ≤ 18 by decide),h.read (o:=8) (n:=1) (show 9 ≤ 18 by decide),h.read (o:=15) (n:=1) (show 16 ≤ 18 by decide),h.read (o:=16) (n:=2) (show 18 ≤ 18 by decide),fun c hc => ?_⟩
  match c,hc with
  | 0,_ => exact h.read (o:=9) (n:=1) (show 10 ≤ 18 by decide)
  | 1,_ => exact h.read (o:=10) (n:=1) (show 11 ≤ 18 by decide)
  | 2,_ => exact h.read (o:=11) (n:=1) (show 12 ≤ 18 by decide)
  | 3,_ => exact h.read (o:=12) (n:=1) (show 13 ≤ 18 by decide)
  | 4,_ => exact h.read (o:=13) (n:=1) (show 14 ≤ 18 by decide)
  | 5,_ => exact h.read (o:=14) (n:=1) (show 15 ≤ 18 by decide)
theorem tr_list (z:Int) {k:Nat} (hk:k < 6):splice (trV lst sz st en rc le rn rd) k [.int .i64 z] = trV (lst.set k z) sz st en rc le rn rd:=by
  obtain ⟨_,_,_,_,_,_,rfl⟩:=six hl;obtain ⟨_,_,_,_,_,_,rfl⟩:=six hr
  match k,hk with
  | 0,_ => rfl
  | 1,_ => rfl
  | 2,_ => rfl
  | 3,_ => rfl
  | 4,_ => rfl
  | 5,_ => rfl
theorem tr_rch {k:Nat} (hk:k < 6):splice (trV lst sz st en rc le rn rd) (9 + k) [.bool true] = trV lst sz st en (rc.set k true) le rn rd:=by
  obtain ⟨_,_,_,_,_,_,rfl⟩:=six hl;obtain ⟨_,_,_,_,_,_,rfl⟩:=six hr
  match k,hk with
  | 0,_ => rfl
  | 1,_ => rfl
  | 2,_ => rfl
  | 3,_ => rfl
  | 4,_ => rfl
  | 5,_ => rfl
theorem tr_size (z:Int):splice (trV lst sz st en rc le rn rd) 6 [.int .i64 z] = trV lst z st en rc le rn rd:=by
  obtain ⟨_,_,_,_,_,_,rfl⟩:=six hl;obtain ⟨_,_,_,_,_,_,rfl⟩:=six hr;rfl
theorem tr_end (z:Int):splice (trV lst sz st en rc le rn rd) 8 [.int .i64 z] = trV lst sz st z rc le rn rd:=by
  obtain ⟨_,_,_,_,_,_,rfl⟩:=six hl;obtain ⟨_,_,_,_,_,_,rfl⟩:=six hr;rfl
theorem tr_rate (a b:Int):splice (trV lst sz st en rc le rn rd) 16 [.int .i64 a,.int .i64 b] = trV lst sz st en rc le a b:=by
  obtain ⟨_,_,_,_,_,_,rfl⟩:=six hl;obtain ⟨_,_,_,_,_,_,rfl⟩:=six hr;rfl
end tr
theorem ones_trV:∀ (lst:List Int) (sz st en:Int) (rc:List Bool) (le rn rd:Int),lst.length = 6 → rc.length = 6 → ones (trV lst sz st en rc le rn rd) = true:=by
  intro lst sz st en rc le rn rd hl hr;obtain ⟨_,_,_,_,_,_,rfl⟩:=six hl;obtain ⟨_,_,_,_,_,_,rfl⟩:=six hr;rfl
structure WS (H X:Heap) (ra rb rc:Nat) (cells cb:List Value):Prop where
  keep:Keep H X
  lt:H.size ≤ ra
  ab:ra ≠ rb
  ac:ra ≠ rc
  a:Own X ra 60 cells
  b:Own X rb 40 cb
  c:Own X rc 60 trZ
theorem WS.more {H X Y:Heap} {ra rb rc:Nat} {cells cb:List Value} (h:WS H X ra rb rc cells cb) (k:Keep X Y):WS H Y ra rb rc cells cb:=⟨h.keep.trans k,h.lt,h.ab,h.ac,h.a.keep k,h.b.keep k,h.c.keep k⟩
theorem WS.store {H X:Heap} {ra rb rc:Nat} {cells cb:List Value} (h:WS H X ra rb rc cells cb) {t:TypeId} {inf:TypeInfo} (hi:Tryd.prog.info? t = some inf) {v:Value} {new:List Value} (hv:v.cells.toList = new) (hs:inf.size = new.length) (hp:ones new = true) {o:Nat} (ho:o + new.length ≤ cells.length) :
    ∃ Y,aStore Tryd.prog X t (.pointer (some ⟨ra,o,none⟩)) v = some Y ∧ WS H Y ra rb rc (splice cells o new) cb:=by
  obtain ⟨Y,h1,h2,h3,h4,h5⟩:=h.a.store (t:=t) hi (v:=v) (new:=new) hv hs hp (o:=o) ho;exact ⟨Y,h1,h5 H h.keep h.lt,h.lt,h.ab,h.ac,h2,h4 _ _ _ h.ab.symm h.b,h4 _ _ _ h.ac.symm h.c⟩
theorem WS.storeD {H X:Heap} {ra rb rc:Nat} {cells cb:List Value} (h:WS H X ra rb rc cells cb) (hL:X.low ≤ X.size) {t:TypeId} {inf:TypeInfo} (hi:Tryd.prog.info? t = some inf) {v:Value} {new:List Value} (hv:v.cells.toList = new) (hs:inf.size = new.length) (hp:ones new = true) {o:Nat} (ho:o + new.length ≤ cells.length) :
    ∃ Y Z,aStore Tryd.prog (X.relow X.size) t (.pointer (some ⟨ra,o,none⟩)) v = some Y ∧ Y.relow (Nat.min X.low Y.low) = Z ∧ Z.low ≤ Z.size ∧ WS H Z ra rb rc (splice cells o new) cb:=by
  obtain ⟨Y,h1,h2,h3,h4,h5⟩:=(h.a.addr (l:=X.size)).store (t:=t) hi (v:=v) (new:=new) hv hs hp (o:=o) ho;refine ⟨Y,_,h1,rfl,?_,Keep.lower h.keep (h5 H (h.keep.trans (Keep.relowS _)) h.lt),h.lt,h.ab,h.ac,h2.addr,(h4 _ _ _ h.ab.symm h.b.addr).addr,(h4 _ _ _ h.ac.symm h.c.addr).addr⟩;show Nat.min X.low Y.low ≤ Y.size;rw [h3];exact Nat.le_trans (Nat.min_le_left _ _) hL

variable {S:AM.Sys} (hS:Only S 6)
include hS

theorem closed_runs (lst:List Int) (sz st en:Int) (rc:List Bool) (le rn rd:Int) (H:Heap) (hl:lst.length = 6) (hr:rc.length = 6):∃ H',Keep H H' ∧ Runs Tryd.prog S (.fn 50) [.agg ⟨trV lst sz st en rc le rn rd⟩] H (.bool (decide (0 < sz ∧ st = en))) H':=by
  obtain ⟨b0,hb0⟩:∃ b0,decide (0 < sz ∧ st = en) = b0:=⟨_,rfl⟩;rw [hb0]
  suffices h:WCall Tryd.prog S (.fn 50) [.agg ⟨trV lst sz st en rc le rn rd⟩] H (fun v H' => v = .bool b0 ∧ Keep H H') by
    obtain ⟨_,H',hr,rfl,hk⟩:=h; exact ⟨H',hk,hr⟩
  obtain ⟨H1,e1,k1,z1,-,-⟩:=box1 H (trV lst sz st en rc le rn rd) 60;have ow:Own H1 H.size 60 (trV lst sz st en rc le rn rd):=e1 ▸ Own.new H _ _;obtain ⟨q18,q6,q7,q8,q15,q16,qc⟩:=tr_reads hl hr ow;have hcs:(Value.agg ⟨trV lst sz st en rc le rn rd⟩).cells.toList = trV lst sz st en rc le rn rd:=rfl;refine call_of Tryd.func50 rfl (Nat.le_of_ble_eq_true rfl) (hS.no rfl _ _) ?_
  rw [Tryd.ntmps50,Tryd.results50];clear ow qc q18 q15 q16;generalize trV lst sz st en rc le rn rd = cells at *
  by_cases h0:0 < sz
  · have hbv:decide (st = en) = b0:=by rw [← hb0]; exact decide_eq_decide.2 ⟨fun h => ⟨h0,h⟩,fun h => h.2⟩
    clear hb0
    repeat' simp only [↓Zabo,↓Zabq,↓Zabp,↓Zacj,↓Zaci,↓Zaco,↓Zaav,↓Zaar,↓Zaak,↓Zaas,↓bxOp_box,↓Zaaq,↓Zaal,↓Zaan,↓bxPut,↓Zabj,↓Zabh,↓Zacm,↓Zacn,↓Zacp,↓Zaaz,↓Zaax,↓dstAt,↓Zaba,Zack,Zaad,Zabb,Zaac,sxGuardB_tt,Zabe,↓reduceIte,Nat.reduceEqDiff,Nat.reduceLT,dec_T,and_self,one1,Option.bind_some, *,argF,List.getD_cons_zero,faT1,faT2,faT3,ldI,Nat.zero_add]
  · have hbv:b0 = false:=by rw [← hb0]; exact decide_eq_false fun h => h0 h.1
    subst hbv;clear hb0
    repeat' simp only [↓Zabo,↓Zabq,↓Zabp,↓Zacj,↓Zaci,↓Zaco,↓Zaav,↓Zaar,↓Zaak,↓Zaas,↓bxOp_box,↓Zaaq,↓Zaal,↓Zaan,↓bxPut,↓Zabj,↓Zabh,↓Zacm,↓Zacn,↓Zacp,↓Zaaz,↓Zaax,↓dstAt,↓Zaba,Zack,Zaad,Zabb,Zaab,sxGuardB_tf,Zabe,↓reduceIte,Nat.reduceEqDiff,Nat.reduceLT,dec_F,and_self,one1,Option.bind_some, *,argF,List.getD_cons_zero,faT1,ldI,Nat.zero_add]

theorem begin_runs (c:Int) (H:Heap) (h1:H.read 0 0 2 = some [.int .i64 1,.int .i64 1]) (h0:0 < H.size):∃ H',Keep H H' ∧ Runs Tryd.prog S (.fn 22) [.int .i64 c] H (.agg ⟨trV (List.replicate 6 0) 0 c c (List.replicate 6 false) 0 1 1⟩) H':=by
  suffices h:WCall Tryd.prog S (.fn 22) [.int .i64 c] H (fun v H' => v = .agg ⟨trV (List.replicate 6 0) 0 c c (List.replicate 6 false) 0 1 1⟩ ∧ Keep H H') by
    obtain ⟨_,H',hr,rfl,hk⟩:=h; exact ⟨H',hk,hr⟩
  obtain ⟨H1,e1,k1,z1,-,-⟩:=box1 H trZ 60;have ow:Own H1 H.size 60 trZ:=e1 ▸ Own.new H _ _;have h1':=k1.read h0 h1;obtain ⟨H2,p1,p2,p3,p4,p5⟩:=ow.store (P:=Tryd.prog) (t:=60) infT.1 (v:=.agg ⟨trV (List.replicate 6 0) 0 c c (List.replicate 6 false) 0 1 1⟩) (new:=trV (List.replicate 6 0) 0 c c (List.replicate 6 false) 0 1 1) rfl infT.2 rfl (o:=0) (Nat.le_refl 18);have k2:=p5 H k1 (Nat.le_refl _);have hsp:splice trZ 0 (trV (List.replicate 6 0) 0 c c (List.replicate 6 false) 0 1 1) = trV (List.replicate 6 0) 0 c c (List.replicate 6 false) 0 1 1:=rfl;rw [hsp] at p2;obtain ⟨q18,-⟩:=tr_reads rfl rfl p2;have hb:=bdT c c 1 1;have ha:=alT H;rw [e1] at ha;clear ow p2 p4 p5 e1;refine call_of Tryd.func22 rfl (Nat.le_of_ble_eq_true rfl) (hS.no rfl _ _) ?_
  rw [Tryd.ntmps22,Tryd.results22];generalize trV (List.replicate 6 0) 0 c c (List.replicate 6 false) 0 1 1 = cells at *
  repeat' simp only [↓Zabo,↓Zabq,↓Zabp,↓Zacj,↓Zaci,↓Zaco,↓Zaar,↓Zaaj,↓bxOp_build,↓Zaaq,↓Zaat,↓Zacl,↓bxPut,↓Zabj,↓Zabh,↓Zacm,↓bxRes_cell,↓Zacp,↓Zaaz,↓ev_global,Zack,Zabe,List.map,↓reduceIte,Nat.reduceEqDiff,Nat.reduceLT,and_self,Option.map_some, *,argF,List.getD_cons_zero,ldF,ldT]
end Go.Proofs.YtcmaipijkjillaaDoor
