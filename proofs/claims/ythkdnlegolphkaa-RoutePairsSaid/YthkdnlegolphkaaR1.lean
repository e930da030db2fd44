/- Legs: what lies in the memory; the small functions that judge them. -/
import Derived.Test.YthkdnlegolphkaaSBx
import Derived.Test.YthkdnlegolphkaaGj
set_option linter.unusedVariables false
set_option linter.unusedSimpArgs false
set_option linter.unusedSectionVars false

namespace Go.Proofs.Ythkdnlegolphkaa
open Go Go.AM
set_option maxRecDepth 10000

theorem Zabb (l:List Value):(Value.agg ⟨l⟩).cells.toList = l:=rfl
structure Lg where
  f:Int
  t:Int
  d:Int
  a:Int
  l:Int
  deriving Inhabited,DecidableEq
def legE:Enc Lg:=mapE (fun x:Lg => (x.f,x.t,x.d,x.a,x.l)) (prodE (intE .i64) (prodE (intE .i64) (prodE (intE .i64) (prodE (intE .i64) (intE .i64)))))
def lc (x:Lg):List Value:=[.int .i64 x.f,.int .i64 x.t,.int .i64 x.d,.int .i64 x.a,.int .i64 x.l]
def R64 (z:Int):Prop:=-9223372036854775808 ≤ z ∧ z ≤ 9223372036854775807
theorem legE_inv {H:Heap} {x:Lg} {cs:List Value} (h:legE.At H x cs):cs = lc x ∧ R64 x.f ∧ R64 x.t ∧ R64 x.d ∧ R64 x.a ∧ R64 x.l:=by
  obtain ⟨c1,c2,rfl,⟨rfl,h1⟩,c3,c4,rfl,⟨rfl,h2⟩,c5,c6,rfl,⟨rfl,h3⟩,c7,c8,rfl,⟨rfl,h4⟩,rfl,h5⟩:=h;exact ⟨rfl,h1,h2,h3,h4,h5⟩
abbrev SlG (H:Heap) (v:Value) (w:List Lg) (r o:Nat):Prop:=SlE legE H v w r o
theorem ldC (H:Heap) (r o:Nat):aLoad Try.prog H 3 (.pointer (some ⟨r,o,none⟩)) = (H.read r o 1).bind one1:=by kernel_rfl
theorem ldG (H:Heap) (r o:Nat):aLoad Try.prog H 32 (.pointer (some ⟨r,o,none⟩)) = (H.read r o 5).map fun l => .agg ⟨l⟩:=by kernel_rfl
theorem ldW (H:Heap) (r o:Nat):aLoad Try.prog H 64 (.pointer (some ⟨r,o,none⟩)) = (H.read r o 4).map fun l => .agg ⟨l⟩:=by kernel_rfl
theorem ldTt (H:Heap) (r o:Nat):aLoad Try.prog H 56 (.pointer (some ⟨r,o,none⟩)) = (H.read r o 3).map fun l => .agg ⟨l⟩:=by kernel_rfl
theorem ldLs (H:Heap) (r o:Nat):aLoad Try.prog H 22 (.pointer (some ⟨r,o,none⟩)) = (H.read r o 1).bind one1:=by kernel_rfl
theorem ldIs (H:Heap) (r o:Nat):aLoad Try.prog H 23 (.pointer (some ⟨r,o,none⟩)) = (H.read r o 1).bind one1:=by kernel_rfl
theorem lenG (a:Option Addr) (n c:Nat):aLen Try.prog #[22] (.slice a n c) = some (.int .i64 n):=by kernel_rfl
theorem lenIs (a:Option Addr) (n c:Nat):aLen Try.prog #[23] (.slice a n c) = some (.int .i64 n):=by kernel_rfl
theorem ixG (r o n c:Nat) (k:IntKind) (i:Int):Zaaa Try.prog 22 (.slice (some ⟨r,o,none⟩) n c) (.int k i) = if 0 ≤ i ∧ i < (n:Int) then some (.pointer (some ⟨r,o + i.toNat * 5,none⟩)) else none:=by kernel_rfl
theorem ixIs (r o n c:Nat) (k:IntKind) (i:Int):Zaaa Try.prog 23 (.slice (some ⟨r,o,none⟩) n c) (.int k i) = if 0 ≤ i ∧ i < (n:Int) then some (.pointer (some ⟨r,o + i.toNat * 1,none⟩)) else none:=by kernel_rfl
theorem faG0 (r o:Nat):aFieldAt Try.prog 32 0 (.pointer (some ⟨r,o,none⟩)) = some (.pointer (some ⟨r,o + 0,none⟩)):=by kernel_rfl
theorem faG1 (r o:Nat):aFieldAt Try.prog 32 1 (.pointer (some ⟨r,o,none⟩)) = some (.pointer (some ⟨r,o + 1,none⟩)):=by kernel_rfl
theorem faG2 (r o:Nat):aFieldAt Try.prog 32 2 (.pointer (some ⟨r,o,none⟩)) = some (.pointer (some ⟨r,o + 2,none⟩)):=by kernel_rfl
theorem faG3 (r o:Nat):aFieldAt Try.prog 32 3 (.pointer (some ⟨r,o,none⟩)) = some (.pointer (some ⟨r,o + 3,none⟩)):=by kernel_rfl
theorem faG4 (r o:Nat):aFieldAt Try.prog 32 4 (.pointer (some ⟨r,o,none⟩)) = some (.pointer (some ⟨r,o + 4,none⟩)):=by kernel_rfl
theorem faW0 (r o:Nat):aFieldAt Try.prog 64 0 (.pointer (some ⟨r,o,none⟩)) = some (.pointer (some ⟨r,o + 0,none⟩)):=by kernel_rfl
theorem faW1 (r o:Nat):aFieldAt Try.prog 64 1 (.pointer (some ⟨r,o,none⟩)) = some (.pointer (some ⟨r,o + 1,none⟩)):=by kernel_rfl
theorem faW2 (r o:Nat):aFieldAt Try.prog 64 2 (.pointer (some ⟨r,o,none⟩)) = some (.pointer (some ⟨r,o + 2,none⟩)):=by kernel_rfl
theorem faW3 (r o:Nat):aFieldAt Try.prog 64 3 (.pointer (some ⟨r,o,none⟩)) = some (.pointer (some ⟨r,o + 3,none⟩)):=by kernel_rfl
theorem faT0 (r o:Nat):aFieldAt Try.prog 56 0 (.pointer (some ⟨r,o,none⟩)) = some (.pointer (some ⟨r,o + 0,none⟩)):=by kernel_rfl
theorem faT1 (r o:Nat):aFieldAt Try.prog 56 1 (.pointer (some ⟨r,o,none⟩)) = some (.pointer (some ⟨r,o + 1,none⟩)):=by kernel_rfl
theorem faT2 (r o:Nat):aFieldAt Try.prog 56 2 (.pointer (some ⟨r,o,none⟩)) = some (.pointer (some ⟨r,o + 2,none⟩)):=by kernel_rfl
theorem SlG_at {H:Heap} {w:List Lg} {r o:Nat} {a:Option Addr} {cap:Nat} (h:SlG H (.slice a w.length cap) w r o) {k:Nat} (h1:k < w.length) :
    ∃ q,Zaaa Try.prog 22 (.slice a w.length cap) (.int .i64 (k:Int)) = some (.pointer (some ⟨r,q,none⟩)) ∧ H.read r q 5 = some (lc (w.getD k default)) ∧
      H.read r q 1 = some [.int .i64 (w.getD k default).f] ∧ H.read r (q + 1) 1 = some [.int .i64 (w.getD k default).t] ∧ H.read r (q + 2) 1 = some [.int .i64 (w.getD k default).d] ∧ H.read r (q + 3) 1 = some [.int .i64 (w.getD k default).a] ∧ H.read r (q + 4) 1 = some [.int .i64 (w.getD k default).l]:=by
  obtain ⟨a',cap',e,ha⟩:=h.isv;cases e;obtain ⟨es,h2,h3⟩:=h.rd k h1;obtain ⟨rfl,_⟩:=legE_inv h3;have h2:H.read r (o + k * 5) 5 = some (lc (w.getD k default)):=h2;have hs:=fun j (hj:j + 1 ≤ 5) => read_sub h2 hj
  refine ⟨o + k * 5,by rw [ha (by omega),ixG,if_pos ⟨by omega,by omega⟩,Int.toNat_natCast],h2,?_,hs 1 (by omega),hs 2 (by omega),hs 3 (by omega),hs 4 (by omega)⟩
  exact hs 0 (by omega)

def LegOk (n:Int) (x:Lg):Prop:=(0 ≤ x.f ∧ x.f ≤ n - 1) ∧ (0 ≤ x.t ∧ x.t ≤ n - 1) ∧ x.f ≠ x.t ∧ 0 ≤ x.d ∧ x.d < x.a ∧ x.a ≤ 10000 ∧ (0 ≤ x.l ∧ x.l ≤ 20)
instance (n:Int) (x:Lg):Decidable (LegOk n x):=by unfold LegOk; infer_instance

def BadT (z:Int):Prop:=¬ (0 ≤ z ∧ z ≤ 10000)
instance (z:Int):Decidable (BadT z):=by unfold BadT; infer_instance
def errC (n:Int) (ls:List Lg) (ch fr to:Int) (ts:List Int):Int:=
  if ¬ (1 ≤ n ∧ n ≤ 8) then 2 else if 60 < ls.length then 3 else if ¬ ∀ x ∈ ls,LegOk n x then 2 else
  if ¬ (0 ≤ ch ∧ ch ≤ 100) ∨ ¬ (0 ≤ fr ∧ fr ≤ n - 1) ∨ ¬ (0 ≤ to ∧ to ≤ n - 1) then 2 else if ¬ ∀ z ∈ ts,0 ≤ z ∧ z ≤ 10000 then 2 else 0
def PostC (H:Heap) (e:Int) (u:Value) (H':Heap):Prop:=u = .int .i64 e ∧ Keep H H'
theorem SlI_at {H:Heap} {w:List Int} {r o:Nat} {a:Option Addr} {cap:Nat} (h:SlI .i64 H (.slice a w.length cap) w r o) {k:Nat} (h1:k < w.length) :
    Zaaa Try.prog 23 (.slice a w.length cap) (.int .i64 (k:Int)) = some (.pointer (some ⟨r,o + k,none⟩)) ∧ H.read r (o + k) 1 = some [.int .i64 (w.getD k 0)]:=by
  obtain ⟨a',cap',e,ha⟩:=h.isv;cases e;exact ⟨by rw [ha (by omega),ixIs,if_pos ⟨by omega,by omega⟩,Int.toNat_natCast,Nat.mul_one],(h.rdI h1).1⟩
variable {S:AM.Sys} (hS:Only S 10)
include hS

theorem isWithin_runs (n lo hi:Int) (H:Heap):Runs Try.prog S (.fn 30) [.int .i64 n,.int .i64 lo,.int .i64 hi] H (.bool (decide (lo ≤ n ∧ n ≤ hi))) H:=by
  suffices h:WCall Try.prog S (.fn 30) [.int .i64 n,.int .i64 lo,.int .i64 hi] H (fun v H' => v = .bool (decide (lo ≤ n ∧ n ≤ hi)) ∧ H' = H) by
    obtain ⟨_,_,hr,rfl,rfl⟩:=h; exact hr
  refine Zaba Try.func30 rfl (Nat.le_of_ble_eq_true rfl) (hS.no rfl _ _) ?_
  rw [Try.ntmps30,Try.results30]
  by_cases h1:lo ≤ n
  · by_cases h2:n ≤ hi
    · have d:decide (lo ≤ n ∧ n ≤ hi) = true:=decide_eq_true ⟨h1,h2⟩
      repeat' (first | (with_reducible refine sxGuardB_tsp (fun h => ?_) (fun h => ?_)) | (with_reducible refine sxGuardB_fsp (fun h => ?_) (fun h => ?_)) | (with_reducible refine sxIfB_sp (fun h => ?_) (fun h => ?_)) | simp only [↓Zabx,↓Zabz,↓Zaby,↓Zacv,↓Zacu,↓Zada,↓Zaaz,↓Zaau,↓Zaam,↓Zaav,↓Zaan,↓bxPut,↓Zabs,↓Zabq,↓Zacy,↓Zacz,↓Zadb,↓Zabg,↓Zabe,↓dstAt,↓Zabh,Zacw,Zaae,Zabi,Zaad,Zacr,Zabm,↓reduceIte,Nat.reduceEqDiff,Nat.reduceLT,dec_T,and_self, *,argF,List.getD_cons_zero,List.getD_cons_succ])
    · have d:decide (lo ≤ n ∧ n ≤ hi) = false:=decide_eq_false fun h => h2 h.2
      repeat' (first | (with_reducible refine sxGuardB_tsp (fun h => ?_) (fun h => ?_)) | (with_reducible refine sxGuardB_fsp (fun h => ?_) (fun h => ?_)) | (with_reducible refine sxIfB_sp (fun h => ?_) (fun h => ?_)) | simp only [↓Zabx,↓Zabz,↓Zaby,↓Zacv,↓Zacu,↓Zada,↓Zaaz,↓Zaau,↓Zaam,↓Zaav,↓Zaan,↓bxPut,↓Zabs,↓Zabq,↓Zacy,↓Zacz,↓Zadb,↓Zabg,↓Zabe,↓dstAt,↓Zabh,Zacw,Zaae,Zabi,Zaad,Zacr,Zabm,↓reduceIte,Nat.reduceEqDiff,Nat.reduceLT,dec_T,dec_F,and_false,and_self, *,argF,List.getD_cons_zero,List.getD_cons_succ])
  · have d:decide (lo ≤ n ∧ n ≤ hi) = false:=decide_eq_false fun h => h1 h.1
    repeat' (first | (with_reducible refine sxGuardB_tsp (fun h => ?_) (fun h => ?_)) | (with_reducible refine sxGuardB_fsp (fun h => ?_) (fun h => ?_)) | (with_reducible refine sxIfB_sp (fun h => ?_) (fun h => ?_)) | simp only [↓Zabx,↓Zabz,↓Zaby,↓Zacv,↓Zacu,↓Zada,↓Zaaz,↓Zaau,↓Zaam,↓Zaav,↓Zaan,↓bxPut,↓Zabs,↓Zabq,↓Zacy,↓Zacz,↓Zadb,↓Zabg,↓Zabe,↓dstAt,↓Zabh,Zacw,Zaae,Zabi,Zaac,Zacq,Zabm,↓reduceIte,Nat.reduceEqDiff,Nat.reduceLT,dec_F,false_and,and_self, *,argF,List.getD_cons_zero,List.getD_cons_succ])

theorem isPlace_runs (n p:Int) (hn:1 ≤ n ∧ n ≤ 8) (H:Heap):Runs Try.prog S (.fn 34) [.int .i64 n,.int .i64 p] H (.bool (decide (0 ≤ p ∧ p ≤ n - 1))) H:=by
  suffices h:WCall Try.prog S (.fn 34) [.int .i64 n,.int .i64 p] H (fun v H' => v = .bool (decide (0 ≤ p ∧ p ≤ n - 1)) ∧ H' = H) by
    obtain ⟨_,_,hr,rfl,rfl⟩:=h; exact hr
  have hw:IntKind.i64.wrap (n - 1) = n - 1:=by rw [IntWalk.i64_in _ (by omega)]
  have f1:=(isWithin_runs hS p 0 (n - 1) H).bx;refine Zaba Try.func34 rfl (Nat.le_of_ble_eq_true rfl) (hS.no rfl _ _) ?_
  rw [Try.ntmps34,Try.results34]
  repeat' (first | (with_reducible refine sxGuardB_tsp (fun h => ?_) (fun h => ?_)) | (with_reducible refine sxGuardB_fsp (fun h => ?_) (fun h => ?_)) | (with_reducible refine sxIfB_sp (fun h => ?_) (fun h => ?_)) | simp only [↓Zabx,↓Zabz,↓Zaby,↓Zacv,↓Zacu,↓Zada,↓Zaau,↓Zaam,↓Zaan,↓Zaay,↓bxPut,↓Zabs,↓Zabq,↓Zacy,↓Zacz,↓Zadb,↓Zabg,↓Zabe,↓Zabf,Zacw,Zaae,Zabi,Zacb,Zabm,List.map_cons,List.map_nil,List.nil_append,List.append_nil,↓reduceIte,Nat.reduceEqDiff,Nat.reduceLT,and_self, *,argF,List.getD_cons_zero,List.getD_cons_succ])

omit hS in
theorem boxG (H:Heap) (x:Lg):∃ H1,H.newExact (lc x) 32 = H1 ∧ Keep H H1 ∧ H1.read H.size 0 5 = some (lc x) ∧ H1.read H.size 0 1 = some [.int .i64 x.f] ∧ H1.read H.size 1 1 = some [.int .i64 x.t] ∧ H1.read H.size 2 1 = some [.int .i64 x.d] ∧ H1.read H.size 3 1 = some [.int .i64 x.a] ∧ H1.read H.size 4 1 = some [.int .i64 x.l]:=by
  obtain ⟨H1,e1,hK1,hz1,hr1,hrs⟩:=boxS H (lc x) 32;exact ⟨H1,e1,hK1,hr1,hrs 0 1 (by show _ ≤ 5; decide),hrs 1 1 (by show _ ≤ 5; decide),hrs 2 1 (by show _ ≤ 5; decide),hrs 3 1 (by show _ ≤ 5; decide),hrs 4 1 (by show _ ≤ 5; decide)⟩

theorem isLeg_runs (n:Int) (hn:1 ≤ n ∧ n ≤ 8) (x:Lg) (H:Heap):∃ H',Keep H H' ∧ Runs Try.prog S (.fn 33) [.int .i64 n,.agg ⟨lc x⟩] H (.bool (decide (LegOk n x))) H':=by
  suffices h:WCall Try.prog S (.fn 33) [.int .i64 n,.agg ⟨lc x⟩] H (fun v H' => v = .bool (decide (LegOk n x)) ∧ Keep H H') by
    obtain ⟨_,H',hr,rfl,h⟩:=h; exact ⟨H',h,hr⟩
  obtain ⟨H1,e1,hK1,r5,r0,r1,r2,r3,r4⟩:=boxG H x;have f1:=(isPlace_runs hS n x.f hn H1).bx;have f2:=(isPlace_runs hS n x.t hn H1).bx;have f3:=(isWithin_runs hS x.l 0 20 H1).bx;have hgo:∃ b,b = decide (LegOk n x):=⟨_,rfl⟩;obtain ⟨b,hb⟩:=hgo;rw [← hb];refine Zaba Try.func33 rfl (Nat.le_of_ble_eq_true rfl) (hS.no rfl _ _) ?_
  rw [Try.ntmps33,Try.results33];have key:LegOk n x ↔ (0 ≤ x.f ∧ x.f ≤ n - 1) ∧ (0 ≤ x.t ∧ x.t ≤ n - 1) ∧ x.f ≠ x.t ∧ 0 ≤ x.d ∧ x.d < x.a ∧ x.a ≤ 10000 ∧ (0 ≤ x.l ∧ x.l ≤ 20):=Iff.rfl
  by_cases c1:(0 ≤ x.f ∧ x.f ≤ n - 1)
  case neg =>
    have d1:decide (0 ≤ x.f ∧ x.f ≤ n - 1) = false:=decide_eq_false c1;replace hb:b = false:=by rw [hb]; exact decide_eq_false fun h => c1 h.1
    subst hb;clear key c1
    repeat' (first | (with_reducible refine sxGuardB_tsp (fun h => ?_) (fun h => ?_)) | (with_reducible refine sxGuardB_fsp (fun h => ?_) (fun h => ?_)) | (with_reducible refine sxIfB_sp (fun h => ?_) (fun h => ?_)) | simp only [↓Zabx,↓Zabz,↓Zaby,↓Zacv,↓Zacu,↓Zada,↓Zaaz,↓Zaau,↓Zaam,↓Zaav,↓bxOp_box,↓Zaat,↓Zaan,↓Zaaq,↓Zaay,↓bxPut,↓Zabs,↓Zabq,↓Zacy,↓Zacz,↓Zadb,↓Zabg,↓Zabe,↓Zabf,↓dstAt,↓Zabh,Zacw,Zaac,Zacb,Zacq,Zabm,List.map_cons,List.map_nil,List.nil_append,List.append_nil,↓reduceIte,Nat.reduceEqDiff,Nat.reduceLT,and_self,Nat.add_zero,one1,Option.bind_some, *,argF,List.getD_cons_zero,List.getD_cons_succ,Zabb,faG0,ldC,one1])
  have d1:decide (0 ≤ x.f ∧ x.f ≤ n - 1) = true:=decide_eq_true c1
  by_cases c2:(0 ≤ x.t ∧ x.t ≤ n - 1)
  case neg =>
    have d2:decide (0 ≤ x.t ∧ x.t ≤ n - 1) = false:=decide_eq_false c2;replace hb:b = false:=by rw [hb]; exact decide_eq_false fun h => c2 h.2.1
    subst hb;clear key c1 c2
    repeat' (first | (with_reducible refine sxGuardB_tsp (fun h => ?_) (fun h => ?_)) | (with_reducible refine sxGuardB_fsp (fun h => ?_) (fun h => ?_)) | (with_reducible refine sxIfB_sp (fun h => ?_) (fun h => ?_)) | simp only [↓Zabx,↓Zabz,↓Zaby,↓Zacv,↓Zacu,↓Zada,↓Zaaz,↓Zaau,↓Zaam,↓Zaav,↓bxOp_box,↓Zaat,↓Zaan,↓Zaaq,↓Zaay,↓bxPut,↓Zabs,↓Zabq,↓Zacy,↓Zacz,↓Zadb,↓Zabg,↓Zabe,↓Zabf,↓dstAt,↓Zabh,Zacw,Zaad,Zaac,Zacb,Zacr,Zacq,Zabm,List.map_cons,List.map_nil,List.nil_append,List.append_nil,↓reduceIte,Nat.reduceEqDiff,Nat.reduceLT,and_self,Nat.add_zero,one1,Option.bind_some, *,argF,List.getD_cons_zero,List.getD_cons_succ,Zabb,faG0,faG1,ldC,one1])
  have d2:decide (0 ≤ x.t ∧ x.t ≤ n - 1) = true:=decide_eq_true c2
  by_cases c7:(0 ≤ x.l ∧ x.l ≤ 20)
  case neg =>
    have d7:decide (0 ≤ x.l ∧ x.l ≤ 20) = false:=decide_eq_false c7;replace hb:b = false:=by rw [hb]; exact decide_eq_false fun h => c7 h.2.2.2.2.2.2
    subst hb;clear key c1 c2 c7
    repeat' (first | (with_reducible refine sxGuardB_tsp (fun h => ?_) (fun h => ?_)) | (with_reducible refine sxGuardB_fsp (fun h => ?_) (fun h => ?_)) | (with_reducible refine sxIfB_sp (fun h => ?_) (fun h => ?_)) | simp only [↓Zabx,↓Zabz,↓Zaby,↓Zacv,↓Zacu,↓Zada,↓Zaaz,↓Zaau,↓Zaam,↓Zaav,↓bxOp_box,↓Zaat,↓Zaan,↓Zaaq,↓Zaay,↓bxPut,↓Zabs,↓Zabq,↓Zacy,↓Zacz,↓Zadb,↓Zabg,↓Zabe,↓Zabf,↓dstAt,↓Zabh,Zacw,Zaae,Zabi,Zaad,Zaac,Zacb,Zacr,Zacq,Zabm,List.map_cons,List.map_nil,List.nil_append,List.append_nil,↓reduceIte,Nat.reduceEqDiff,Nat.reduceLT,dec_T,dec_F,and_self,Nat.add_zero,one1,Option.bind_some,not_false_eq_true, *,argF,List.getD_cons_zero,List.getD_cons_succ,Zabb,faG0,faG1,faG2,faG3,faG4,ldC,one1])
  have d7:decide (0 ≤ x.l ∧ x.l ≤ 20) = true:=decide_eq_true c7;have hb2:b = true ↔ ¬ x.f = x.t ∧ 0 ≤ x.d ∧ x.d < x.a ∧ x.a ≤ 10000:=by
    rw [hb,decide_eq_true_iff,key];exact ⟨fun h => ⟨h.2.2.1,h.2.2.2.1,h.2.2.2.2.1,h.2.2.2.2.2.1⟩,fun h => ⟨c1,c2,h.1,h.2.1,h.2.2.1,h.2.2.2,c7⟩⟩
  clear key c1 c2 c7 hb
  by_cases c3:x.f = x.t
  · have d3:decide (¬ x.f = x.t) = false:=decide_eq_false fun h => h c3
    replace hb2:b = false:=by cases b with
      | false => rfl
      | true => exact absurd c3 (hb2.1 rfl).1
    subst hb2;clear c3
    repeat' (first | (with_reducible refine sxGuardB_tsp (fun h => ?_) (fun h => ?_)) | (with_reducible refine sxGuardB_fsp (fun h => ?_) (fun h => ?_)) | (with_reducible refine sxIfB_sp (fun h => ?_) (fun h => ?_)) | simp only [↓Zabx,↓Zabz,↓Zaby,↓Zacv,↓Zacu,↓Zada,↓Zaaz,↓Zaau,↓Zaam,↓Zaav,↓bxOp_box,↓Zaat,↓Zaan,↓Zaaq,↓Zaay,↓bxPut,↓Zabs,↓Zabq,↓Zacy,↓Zacz,↓Zadb,↓Zabg,↓Zabe,↓Zabf,↓dstAt,↓Zabh,Zacw,Zaae,Zabi,Zaad,Zaac,Zacb,Zacr,Zacq,Zabm,List.map_cons,List.map_nil,List.nil_append,List.append_nil,↓reduceIte,Nat.reduceEqDiff,Nat.reduceLT,and_self,Nat.add_zero,one1,Option.bind_some, *,argF,List.getD_cons_zero,List.getD_cons_succ,Zabb,faG0,faG1,ldC,one1])
  have d3:decide (¬ x.f = x.t) = true:=decide_eq_true c3
  by_cases c4:0 ≤ x.d
  case neg =>
    replace hb2:b = false:=by cases b with
      | false => rfl
      | true => exact absurd (hb2.1 rfl).2.1 c4
    subst hb2;clear c3
    repeat' (first | (with_reducible refine sxGuardB_tsp (fun h => ?_) (fun h => ?_)) | (with_reducible refine sxGuardB_fsp (fun h => ?_) (fun h => ?_)) | (with_reducible refine sxIfB_sp (fun h => ?_) (fun h => ?_)) | simp only [↓Zabx,↓Zabz,↓Zaby,↓Zacv,↓Zacu,↓Zada,↓Zaaz,↓Zaau,↓Zaam,↓Zaav,↓bxOp_box,↓Zaat,↓Zaan,↓Zaaq,↓Zaay,↓bxPut,↓Zabs,↓Zabq,↓Zacy,↓Zacz,↓Zadb,↓Zabg,↓Zabe,↓Zabf,↓dstAt,↓Zabh,Zacw,Zaae,Zabi,Zaad,Zaac,Zacb,Zacr,Zacq,Zabm,List.map_cons,List.map_nil,List.nil_append,List.append_nil,↓reduceIte,Nat.reduceEqDiff,Nat.reduceLT,dec_F,and_self,Nat.add_zero,one1,Option.bind_some, *,argF,List.getD_cons_zero,List.getD_cons_succ,Zabb,faG0,faG1,faG2,ldC,one1])
  by_cases c5:x.d < x.a
  case neg =>
    replace hb2:b = false:=by cases b with
      | false => rfl
      | true => exact absurd (hb2.1 rfl).2.2.1 c5
    subst hb2;clear c3
    repeat' (first | (with_reducible refine sxGuardB_tsp (fun h => ?_) (fun h => ?_)) | (with_reducible refine sxGuardB_fsp (fun h => ?_) (fun h => ?_)) | (with_reducible refine sxIfB_sp (fun h => ?_) (fun h => ?_)) | simp only [↓Zabx,↓Zabz,↓Zaby,↓Zacv,↓Zacu,↓Zada,↓Zaaz,↓Zaau,↓Zaam,↓Zaav,↓bxOp_box,↓Zaat,↓Zaan,↓Zaaq,↓Zaay,↓bxPut,↓Zabs,↓Zabq,↓Zacy,↓Zacz,↓Zadb,↓Zabg,↓Zabe,↓Zabf,↓dstAt,↓Zabh,Zacw,Zaae,Zabi,Zaad,Zaac,Zacb,Zacr,Zacq,Zabm,List.map_cons,List.map_nil,List.nil_append,List.append_nil,↓reduceIte,Nat.reduceEqDiff,Nat.reduceLT,dec_T,dec_F,and_self,Nat.add_zero,one1,Option.bind_some, *,argF,List.getD_cons_zero,List.getD_cons_succ,Zabb,faG0,faG1,faG2,faG3,ldC,one1])
  by_cases c6:x.a ≤ 10000
  case neg =>
    replace hb2:b = false:=by cases b with
      | false => rfl
      | true => exact absurd (hb2.1 rfl).2.2.2 c6
    subst hb2;clear c3
    repeat' (first | (with_reducible refine sxGuardB_tsp (fun h => ?_) (fun h => ?_)) | (with_reducible refine sxGuardB_fsp (fun h => ?_) (fun h => ?_)) | (with_reducible refine sxIfB_sp (fun h => ?_) (fun h => ?_)) | simp only [↓Zabx,↓Zabz,↓Zaby,↓Zacv,↓Zacu,↓Zada,↓Zaaz,↓Zaau,↓Zaam,↓Zaav,↓bxOp_box,↓Zaat,↓Zaan,↓Zaaq,↓Zaay,↓bxPut,↓Zabs,↓Zabq,↓Zacy,↓Zacz,↓Zadb,↓Zabg,↓Zabe,↓Zabf,↓dstAt,↓Zabh,Zacw,Zaae,Zabi,Zaad,Zaac,Zacb,Zacr,Zacq,Zabm,List.map_cons,List.map_nil,List.nil_append,List.append_nil,↓reduceIte,Nat.reduceEqDiff,Nat.reduceLT,dec_T,dec_F,and_self,Nat.add_zero,one1,Option.bind_some, *,argF,List.getD_cons_zero,List.getD_cons_succ,Zabb,faG0,faG1,faG2,faG3,ldC,one1])
  replace hb2:b = true:=hb2.2 ⟨c3,c4,c5,c6⟩;subst hb2;clear c3
  repeat' (first | (with_reducible refine sxGuardB_tsp (fun h => ?_) (fun h => ?_)) | (with_reducible refine sxGuardB_fsp (fun h => ?_) (fun h => ?_)) | (with_reducible refine sxIfB_sp (fun h => ?_) (fun h => ?_)) | simp only [↓Zabx,↓Zabz,↓Zaby,↓Zacv,↓Zacu,↓Zada,↓Zaaz,↓Zaau,↓Zaam,↓Zaav,↓bxOp_box,↓Zaat,↓Zaan,↓Zaaq,↓Zaay,↓bxPut,↓Zabs,↓Zabq,↓Zacy,↓Zacz,↓Zadb,↓Zabg,↓Zabe,↓Zabf,↓dstAt,↓Zabh,Zacw,Zaae,Zabi,Zaad,Zacb,Zacr,Zabm,List.map_cons,List.map_nil,List.nil_append,List.append_nil,↓reduceIte,Nat.reduceEqDiff,Nat.reduceLT,dec_T,and_self,Nat.add_zero,one1,Option.bind_some, *,argF,List.getD_cons_zero,List.getD_cons_succ,Zabb,faG0,faG1,faG2,faG3,faG4,ldC,one1])

end Go.Proofs.Ythkdnlegolphkaa
