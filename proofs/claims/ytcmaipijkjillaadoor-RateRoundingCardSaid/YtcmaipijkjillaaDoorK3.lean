/- Fractions of the program, continued. -/
import Derived.Test.YtcmaipijkjillaaDoorK2
set_option linter.unusedVariables false
set_option linter.unusedSimpArgs false
set_option linter.unusedSectionVars false

namespace Go.Proofs.YtcmaipijkjillaaDoor
open Go Go.AM
set_option maxRecDepth 10000

theorem faF0 (r o:Nat):aFieldAt Tryd.prog 58 0 (.pointer (some ⟨r,o,none⟩)) = some (.pointer (some ⟨r,o + 0,none⟩)):=by kernel_rfl
theorem faF1 (r o:Nat):aFieldAt Tryd.prog 58 1 (.pointer (some ⟨r,o,none⟩)) = some (.pointer (some ⟨r,o + 1,none⟩)):=by kernel_rfl
theorem ldF (H:Heap) (r o:Nat):aLoad Tryd.prog H 58 (.pointer (some ⟨r,o,none⟩)) = (H.read r o 2).map fun l => .agg ⟨l⟩:=by kernel_rfl
theorem alF (H:Heap):aAlloc Tryd.prog H 58 = some (.pointer (some ⟨H.size,0,none⟩),H.newExact [.int .i64 0,.int .i64 0] 58):=by kernel_rfl
theorem bdF (a b:Int):aBuild Tryd.prog 58 [(0,.int .i64 a),(1,.int .i64 b)] = some (.agg ⟨[.int .i64 a,.int .i64 b]⟩):=by kernel_rfl
theorem cvU (z:Int):aConv Tryd.prog 3 88 (.int .i64 z) = some (.int .u64 (IntKind.u64.wrap z)):=by kernel_rfl
theorem cells2 (l:List Value):(Value.agg ⟨l⟩).cells.toList = l:=rfl
theorem box2 (H:Heap) (a b:Int) (t:TypeId):∃ H1,H.newExact [.int .i64 a,.int .i64 b] t = H1 ∧ Keep H H1 ∧ H.size < H1.size ∧ H1.read H.size 0 2 = some [.int .i64 a,.int .i64 b] ∧ H1.read H.size 0 1 = some [.int .i64 a] ∧ H1.read H.size 1 1 = some [.int .i64 b]:=by
  obtain ⟨H1,e1,hK1,hz1,_,hr1⟩:=box1 H [.int .i64 a,.int .i64 b] t;exact ⟨H1,e1,hK1,hz1,hr1 0 2 (by show 0 + 2 ≤ 2; omega),hr1 0 1 (by show 0 + 1 ≤ 2; omega),hr1 1 1 (by show 1 + 1 ≤ 2; omega)⟩
theorem st2 (t:TypeId) (inf:TypeInfo) (hi:Tryd.prog.info? t = some inf) (hs:inf.size = 2) {H:Heap} {r:Nat} {x y:Value} (h:Own H r t [x,y]) (a b:Int) :
    ∃ H2,aStore Tryd.prog H t (.pointer (some ⟨r,0,none⟩)) (.agg ⟨[.int .i64 a,.int .i64 b]⟩) = some H2 ∧ Own H2 r t [.int .i64 a,.int .i64 b] ∧ H2.size = H.size ∧ (∀ r' e' c',r' ≠ r → Own H r' e' c' → Own H2 r' e' c') ∧ (∀ H0,Keep H0 H → H0.size ≤ r → Keep H0 H2):=by
  have hob:=h.store (P:=Tryd.prog) (t:=t) (i:=inf) hi (v:=.agg ⟨[.int .i64 a,.int .i64 b]⟩) (new:=[.int .i64 a,.int .i64 b]) rfl (hs.trans rfl) rfl (o:=0) (show 0 + 2 ≤ 2 by omega)
  obtain ⟨H2,h1,h2,h3,h4,h5⟩:=hob;exact ⟨H2,h1,h2,h3,h4,h5⟩
theorem own2 {H:Heap} {r:Nat} {t:TypeId} {x y:Value} (h:Own H r t [x,y]):H.read r 0 2 = some [x,y] ∧ H.read r 0 1 = some [x] ∧ H.read r 1 1 = some [y]:=
  ⟨h.read (o:=0) (n:=2) (Nat.le_refl 2),h.read (o:=0) (n:=1) (show 0 + 1 ≤ 2 by omega),h.read (o:=1) (n:=1) (show 1 + 1 ≤ 2 by omega)⟩
theorem infF:Tryd.prog.info? 58 = some Tryd.t58 ∧ Tryd.t58.size = 2:=⟨by kernel_rfl,by kernel_rfl⟩
variable {S:AM.Sys} (hS:Only S 6)
include hS

theorem above_runs (an ad bn bd:Int) (H:Heap) (h1:0 ≤ an ∧ an ≤ 9223372036854775807) (h2:0 ≤ ad ∧ ad ≤ 9223372036854775807) (h3:0 ≤ bn ∧ bn ≤ 9223372036854775807) (h4:0 ≤ bd ∧ bd ≤ 9223372036854775807) :
    ∃ H',Keep H H' ∧ Runs Tryd.prog S (.fn 31) [.agg ⟨[.int .i64 an,.int .i64 ad]⟩,.agg ⟨[.int .i64 bn,.int .i64 bd]⟩] H (.bool (decide (bn * ad < an * bd))) H':=by
  suffices h:WCall Tryd.prog S (.fn 31) [.agg ⟨[.int .i64 an,.int .i64 ad]⟩,.agg ⟨[.int .i64 bn,.int .i64 bd]⟩] H (fun v H' => v = .bool (decide (bn * ad < an * bd)) ∧ Keep H H') by
    obtain ⟨_,H',hr,rfl,hk⟩:=h; exact ⟨H',hk,hr⟩
  obtain ⟨Ha,e1,k1,s1,ra2,ra0,ra1⟩:=box2 H an ad 58;obtain ⟨Hb,e2,k2,s2,rb2,rb0,rb1⟩:=box2 Ha bn bd 58;have qa0:=k2.read s1 ra0;have qa1:=k2.read s1 ra1;have k12:=k1.trans k2;have w1:=u64_in an (by omega)
  have w2:=u64_in ad (by omega)
  have w3:=u64_in bn (by omega)
  have w4:=u64_in bd (by omega)
  have f1:=(Mul64_runs hS an bd Hb (by omega) (by omega)).bx
  have f2:=(Mul64_runs hS bn ad Hb (by omega) (by omega)).bx
  have p0:=Int.mul_nonneg h1.1 h4.1;have q0:=Int.mul_nonneg h3.1 h2.1;generalize an * bd = p at *;generalize bn * ad = q at *;refine call_of Tryd.func31 rfl (Nat.le_of_ble_eq_true rfl) (hS.no rfl _ _) ?_
  rw [Tryd.ntmps31,Tryd.results31];clear ra2 rb2 ra0 ra1
  repeat' (first | (with_reducible refine Zacf (fun h => ?_) (fun h => ?_)) | (with_reducible refine Zace (fun h => ?_) (fun h => ?_)) | (with_reducible refine sxIfB_sp (fun h => ?_) (fun h => ?_)) | simp only [↓Zabr,↓Zabo,↓Zabq,↓Zaah,↓Zabp,↓Zacj,↓Zaci,↓Zaco,↓Zaar,↓Zaak,↓bxOp_box,↓Zaaq,↓Zaal,↓Zaan,↓bxOp_extract,↓Zaau,↓bxOp_convert,↓bxPut,↓Zabj,↓Zabk,↓Zabh,↓Zacm,↓Zacn,↓Zacp,↓Zaaz,↓Zaax,↓Zaay,aConvH_int,Zack,Zaad,Zabb,Zabs,Zabe,List.map,List.nil_append,List.append_nil,↓reduceIte,Nat.reduceEqDiff,Nat.reduceLT,and_true,Nat.add_zero,one1,Option.bind_some, *,argF,List.getD_cons_zero,List.getD_cons_succ,faF0,faF1,ldI,cells2,ex20,ex21,cvU,Nat.zero_add])
  all_goals first
    | (refine congrArg Value.bool (decide_eq_decide.2 ?_); omega)
end Go.Proofs.YtcmaipijkjillaaDoor
