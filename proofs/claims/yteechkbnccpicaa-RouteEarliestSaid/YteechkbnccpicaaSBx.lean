/- The length of a number in bits. -/
import Derived.Test.YteechkbnccpicaaR0s
import Derived.Sort.LotD1
set_option linter.unusedVariables false
set_option linter.unusedSimpArgs false
set_option linter.unusedSectionVars false

namespace Go.Proofs.Yteechkbnccpicaa
open Go Go.AM
set_option maxRecDepth 10000
theorem sxOptB_tab {P:Program} {t:TypeId} {l:List UInt8} {K:Value → Prop} {b:Blk K} {x:Nat} (hstr:P.underlying t = some .string) (hl:Nat.beq l.length 256 = true) (ht:(List.range 256).all (fun y => Nat.beq (l.getD y 0).toNat (Sort.bitsLen y)) = true) (hx:x < 256) (hk:K (.int .u8 ((Sort.bitsLen x:Nat):Int))) :
    sxOptB (aIndex P t (.string ⟨l.toArray⟩) (.int .u8 (x:Int))) K b:=by
  have hll:=Nat.eq_of_beq_eq_true hl;have h1:=index_str (P:=P) (t:=t) hstr (l:=l) (k:=.u8) (i:=(x:Int)) (by omega) (by omega)
  have h2:(l.getD x 0).toNat = Sort.bitsLen x:=by
    have:=List.all_eq_true.1 ht x (List.mem_range.2 hx);exact Nat.eq_of_beq_eq_true this
  rw [Int.toNat_natCast,h2] at h1;have h3:aIndex P t (.string ⟨l.toArray⟩) (.int .u8 (x:Int)) = some (.int .u8 ((Sort.bitsLen x:Nat):Int)):=h1;rw [h3,Zacx];exact hk
theorem cv64 (z:Int):aConv Try.prog 126 5 (.int .u64 z) = some (.int .u8 (IntKind.u8.wrap z)):=by kernel_rfl
theorem cv8 (z:Int):aConv Try.prog 5 3 (.int .u8 z) = some (.int .i64 (IntKind.i64.wrap z)):=by kernel_rfl
theorem bitsLen_256 {x:Nat} (h:256 ≤ x):Sort.bitsLen x = 8 + Sort.bitsLen (x / 256):=by
  have h1:=Sort.lt_two_pow_bitsLen (x / 256);have h2:=Sort.lt_two_pow_bitsLen x;apply Nat.le_antisymm
  · rw [Sort.bitsLen_le_iff,Nat.pow_add];have:(2:Nat) ^ 8 = 256:=rfl;rw [this];omega
  · have h9:¬ Sort.bitsLen x ≤ 8:=fun hh => by
      have:=(Sort.bitsLen_le_iff x 8).1 hh;have e:(2:Nat) ^ 8 = 256:=rfl;omega
    have h3:Sort.bitsLen (x / 256) ≤ Sort.bitsLen x - 8:=by
      rw [Sort.bitsLen_le_iff];have e:(2:Nat) ^ Sort.bitsLen x = 2 ^ (Sort.bitsLen x - 8) * 256:=by
        rw [show (256:Nat) = 2 ^ 8 from rfl,← Nat.pow_add]
        congr 1; omega
      rw [e] at h2;exact Nat.div_lt_of_lt_mul (by omega)
    omega
theorem bitsLen_16 {x:Nat} (h:x < 65536):Sort.bitsLen x ≤ 16:=(Sort.bitsLen_le_iff x 16).2 h
variable {S:AM.Sys} (hS:Only S 11)
include hS

theorem bLen64_runs (x:Nat) (hx:x < 65536) (H:Heap):Runs Try.prog S (.fn 94) [.int .u64 (x:Int)] H (.int .i64 (Sort.bitsLen x:Int)) H:=by
  suffices h:WCall Try.prog S (.fn 94) [.int .u64 (x:Int)] H (fun v H' => v = .int .i64 (Sort.bitsLen x:Int) ∧ H' = H) by
    obtain ⟨_,_,hr,rfl,rfl⟩:=h; exact hr
  refine Zaba Try.func94 rfl (Nat.le_of_ble_eq_true rfl) (hS.no rfl _ _) ?_
  rw [Try.ntmps94,Try.results94];have h1:¬ (4294967296:Int) ≤ (x:Int):=by omega
  have h2:¬ (65536:Int) ≤ (x:Int):=by omega
  by_cases h3:x < 256
  · have h3':¬ (256:Int) ≤ (x:Int):=by omega
    have hb:=bitsLen_16 hx;have hw:IntKind.u8.wrap (x:Int) = (x:Int):=IntWalk.u8_in _ (by omega)
    have hw2:IntKind.i64.wrap ((Sort.bitsLen x:Nat):Int) = ((Sort.bitsLen x:Nat):Int):=IntWalk.i64_in _ (by omega)
    have hw3:IntKind.i64.wrap (0 + ((Sort.bitsLen x:Nat):Int)) = ((Sort.bitsLen x:Nat):Int):=by rw [Int.zero_add]; exact hw2
    repeat' simp only [↓Zaca,↓Zabx,↓Zabz,↓Zaai,↓Zaby,↓Zacw,↓Zacv,↓Zadb,↓Zaau,↓Zaam,↓Zaan,↓bxOp_index,↓bxOp_convert,↓bxPut,↓Zabs,↓Zabq,↓Zacz,↓Zada,↓Zadc,↓Zabg,↓Zabe,aConvH_int,Zacx,Zaae,Zabi,Zact,Zabm,↓reduceIte,Nat.reduceEqDiff,Nat.reduceLT,dec_F, *,argF,List.getD_cons_zero,cv64]
    refine sxOptB_tab Try.underlying9 (by kernel_rfl) (by kernel_rfl) h3 ?_
    repeat' simp only [↓bxPut,↓Zadc,aConvH_int,Zacx,Zaae,Zabi,↓reduceIte,Nat.reduceEqDiff,Nat.reduceLT,and_self, *,cv8]
  · have h3':(256:Int) ≤ (x:Int):=by omega
    have d08:(0:Int) ≤ 8:=by decide
    have hsh:(x:Int).fdiv (2 ^ min (Int.toNat 8) IntKind.u64.bits) = ((x / 256:Nat):Int):=by
      show (x:Int).fdiv 256 = _;rw [Int.fdiv_eq_ediv_of_nonneg _ (by decide)]; omega
    have hb:=bitsLen_16 (show x / 256 < 65536 by omega)
    have h4:x / 256 < 256:=by omega
    have hw:IntKind.u8.wrap ((x / 256:Nat):Int) = ((x / 256:Nat):Int):=IntWalk.u8_in _ (by omega)
    have hw1:IntKind.i64.wrap (0 + 8) = 8:=by decide
    have hw2:IntKind.i64.wrap ((Sort.bitsLen (x / 256):Nat):Int) = ((Sort.bitsLen (x / 256):Nat):Int):=IntWalk.i64_in _ (by omega)
    have h256:=bitsLen_256 (show 256 ≤ x by omega)
    have hw3:IntKind.i64.wrap (8 + ((Sort.bitsLen (x / 256):Nat):Int)) = ((Sort.bitsLen x:Nat):Int):=by rw [h256,IntWalk.i64_in _ (by omega)]; simp
    clear h256
    repeat' simp only [↓Zaca,↓Zabx,↓Zabz,↓Zaai,↓Zaby,↓Zacw,↓Zacv,↓Zadb,↓Zaau,↓Zaam,↓Zaan,↓bxOp_index,↓bxOp_convert,↓bxPut,↓Zabs,↓Zabq,↓Zacz,↓Zada,↓Zadc,↓Zabg,↓Zabe,aConvH_int,Zacx,Zaae,Zabi,Zacu,Zact,Zabm,↓reduceIte,Nat.reduceEqDiff,Nat.reduceLT,dec_T,dec_F, *,argF,List.getD_cons_zero,cv64]
    refine sxOptB_tab Try.underlying9 (by kernel_rfl) (by kernel_rfl) h4 ?_
    repeat' simp only [↓bxPut,↓Zadc,aConvH_int,Zacx,Zaae,Zabi,↓reduceIte,Nat.reduceEqDiff,Nat.reduceLT,and_self, *,cv8]

theorem bLen_runs (x:Nat) (hx:x < 65536) (H:Heap):Runs Try.prog S (.fn 78) [.int .u64 (x:Int)] H (.int .i64 (Sort.bitsLen x:Int)) H:=by
  suffices h:WCall Try.prog S (.fn 78) [.int .u64 (x:Int)] H (fun v H' => v = .int .i64 (Sort.bitsLen x:Int) ∧ H' = H) by
    obtain ⟨_,_,hr,rfl,rfl⟩:=h; exact hr
  have f1:=(bLen64_runs hS x hx H).bx;refine Zaba Try.func78 rfl (Nat.le_of_ble_eq_true rfl) (hS.no rfl _ _) ?_
  rw [Try.ntmps78,Try.results78]
  repeat' simp only [↓Zaca,↓Zabx,↓Zabz,↓Zaai,↓Zaby,↓Zacw,↓Zacv,↓Zadb,↓Zaau,↓Zaam,↓Zaay,↓bxOp_convert,↓bxPut,↓Zabs,↓Zabt,↓Zabq,↓Zacz,↓Zada,↓Zadc,↓Zabg,↓Zabe,↓Zabf,Zacb,Zact,Zabm,List.map,List.nil_append,List.append_nil,↓reduceIte,Nat.reduceEqDiff,Nat.reduceLT,and_self, *,argF,List.getD_cons_zero]

omit hS in
theorem cvIU (z:Int):aConv Try.prog 3 108 (.int .i64 z) = some (.int .u64 (IntKind.u64.wrap z)):=by kernel_rfl
theorem nextPow_runs (x:Nat) (hx:x < 65536) (H:Heap):Runs Try.prog S (.fn 107) [.int .i64 (x:Int)] H (.int .u64 ((2 ^ Sort.bitsLen x:Nat):Int)) H:=by
  suffices h:WCall Try.prog S (.fn 107) [.int .i64 (x:Int)] H (fun v H' => v = .int .u64 ((2 ^ Sort.bitsLen x:Nat):Int) ∧ H' = H) by
    obtain ⟨_,_,hr,rfl,rfl⟩:=h; exact hr
  have f1:=(bLen_runs hS x hx H).bx;have hw:IntKind.u64.wrap (x:Int) = (x:Int):=IntWalk.u64_in _ (by omega)
  refine Zaba Try.func107 rfl (Nat.le_of_ble_eq_true rfl) (hS.no rfl _ _) ?_
  rw [Try.ntmps107,Try.results107]
  repeat' simp only [↓Zabx,↓Zabz,↓Zaby,↓Zacw,↓Zacv,↓Zadb,↓Zaau,↓Zaam,↓Zaan,↓Zaay,↓bxOp_convert,↓bxPut,↓Zabs,↓Zabq,↓Zacz,↓Zada,↓Zadc,↓Zabg,↓Zabe,↓Zabf,aConvH_int,Zacx,binP_shl,Zabi,Zacb,Zabm,List.map,List.nil_append,List.append_nil,↓reduceIte,Nat.reduceEqDiff,Nat.reduceLT,and_true,Int.natCast_nonneg,Int.toNat_natCast, *,argF,List.getD_cons_zero,cvIU]
  have hb:=bitsLen_16 hx;have hp:2 ^ Sort.bitsLen x ≤ 2 ^ 16:=Nat.pow_le_pow_right (by decide) hb
  have hmn:min (Sort.bitsLen x) IntKind.u64.bits = Sort.bitsLen x:=Nat.min_eq_left (show Sort.bitsLen x ≤ 64 by omega)
  rw [hmn,Int.one_mul,show (2:Int) ^ Sort.bitsLen x = ((2 ^ Sort.bitsLen x:Nat):Int) by simp]
  exact congrArg _ (IntWalk.u64_in _ ⟨Int.natCast_nonneg _,Int.le_trans (Int.ofNat_le.2 hp) (by decide)⟩)

omit hS in
theorem ownD {H0 H:Heap} {s:Nat} {z z':Int} (ho:Own H s 136 [.int .u64 z]) (hk:KeepX s H0 H) (hL:H0.low ≤ H0.size) :
    ∃ H2 H3,aStore Try.prog (H.relow H.size) 136 (.pointer (some ⟨s,0,none⟩)) (.int .u64 z') = some H2 ∧ H2.relow (Nat.min H.low H2.low) = H3 ∧ Own H3 s 136 [.int .u64 z'] ∧ KeepX s H0 H3 ∧ H3.low ≤ H3.size ∧ H3.read s 0 1 = some [.int .u64 z']:=by
  have hi:∃ i,Try.prog.info? 136 = some i ∧ i.size = 1:=Option.map_eq_some_iff.1 (show (Try.prog.info? 136).map (·.size) = some 1 by kernel_rfl)
  obtain ⟨i,hi,hs⟩:=hi;obtain ⟨H2,h1,h2,h3,h4⟩:=(ho.addr (l:=H.size)).storeX (o:=0) (t:=136) hi (v:=.int .u64 z') (new:=[.int .u64 z']) rfl hs rfl (by simp)
  have h2:Own H2 s 136 [.int .u64 z']:=by simpa [splice] using h2
  have hk3:=hk.draw h3 (.inl rfl);have ho3:Own (H2.relow (Nat.min H.low H2.low)) s 136 [.int .u64 z']:=h2.addr;refine ⟨H2,_,h1,rfl,ho3,hk3,hk3.low hL,?_⟩;have:=ho3.read (o:=0) (n:=1) (by simp)
  simpa using this
theorem xorNext_runs (z:Int) (s:Nat) (H:Heap) (ho:Own H s 136 [.int .u64 z]) (hL:H.low ≤ H.size):∃ z' H',Runs Try.prog S (.fn 108) [.pointer (some ⟨s,0,none⟩)] H (.int .u64 z') H' ∧ Own H' s 136 [.int .u64 z'] ∧ KeepX s H H':=by
  suffices h:WCall Try.prog S (.fn 108) [.pointer (some ⟨s,0,none⟩)] H (fun v H' => ∃ z',v = .int .u64 z' ∧ Own H' s 136 [.int .u64 z'] ∧ KeepX s H H') by
    obtain ⟨_,H',hr,z',rfl,h⟩:=h; exact ⟨z',H',hr,h⟩
  have rd:H.read s 0 1 = some [.int .u64 z]:=by
    have:=ho.read (o:=0) (n:=1) (by simp)
    simpa using this
  have d13:(0:Int) ≤ 13:=by decide
  have d7:(0:Int) ≤ 7:=by decide
  have d17:(0:Int) ≤ 17:=by decide
  have ldx:∀ (H:Heap) (r o:Nat),aLoad Try.prog H 136 (.pointer (some ⟨r,o,none⟩)) = (H.read r o 1).bind one1:=fun H r o => by kernel_rfl
  have nc:∀ a:Addr,aNilCheck (.pointer (some a)) = some (.pointer (some a)):=fun a => rfl
  have e1:∃ z1:Int,IntKind.u64.wrap ((BitVec.ofInt IntKind.u64.bits z ^^^ BitVec.ofInt IntKind.u64.bits (IntKind.u64.wrap (z * 2 ^ min (Int.toNat 13) IntKind.u64.bits))).toNat:Int) = z1:=⟨_,rfl⟩;obtain ⟨z1,e1⟩:=e1;have e2:∃ z2:Int,IntKind.u64.wrap ((BitVec.ofInt IntKind.u64.bits z1 ^^^ BitVec.ofInt IntKind.u64.bits (z1.fdiv (2 ^ min (Int.toNat 7) IntKind.u64.bits))).toNat:Int) = z2:=⟨_,rfl⟩;obtain ⟨z2,e2⟩:=e2;have e3:∃ z3:Int,IntKind.u64.wrap ((BitVec.ofInt IntKind.u64.bits z2 ^^^ BitVec.ofInt IntKind.u64.bits (IntKind.u64.wrap (z2 * 2 ^ min (Int.toNat 17) IntKind.u64.bits))).toNat:Int) = z3:=⟨_,rfl⟩;obtain ⟨z3,e3⟩:=e3;obtain ⟨H2,H3,s2,g3,ho3,hk3,hL3,rd3⟩:=ownD (z':=z1) ho (KeepX.refl s H) hL;obtain ⟨H4,H5,s4,g5,ho5,hk5,hL5,rd5⟩:=ownD (z':=z2) ho3 hk3 hL;obtain ⟨H6,H7,s6,g7,ho7,hk7,hL7,rd7⟩:=ownD (z':=z3) ho5 hk5 hL;clear ho ho3 ho5 hk3 hk5;refine Zaba Try.func108 rfl (Nat.le_of_ble_eq_true rfl) (hS.no rfl _ _) ?_
  rw [Try.ntmps108,Try.results108]
  repeat' (first | simp only [↓Zabv,↓Zabx,↓Zabz,↓Zaby,↓Zacw,↓Zacv,↓Zaco,↓Zaak,↓Zacj,↓Zaci,↓sxDL_nilCheck,↓Zace,↓Zacn,↓Zadb,↓Zaau,↓Zaam,↓Zaat,↓Zaaw,↓bxOp_nilCheck,↓Zaan,↓Zacy,↓bxPut,↓Zabs,↓Zabq,↓Zacz,↓Zada,↓Zadc,↓Zabg,↓Zabe,Zacx,Zaae,Zabi,Zabm,↓reduceIte,Nat.reduceEqDiff,Nat.reduceLT,and_true,read_relow,one1,Option.bind_some, *,argF,List.getD_cons_zero,one1] | (with_reducible first | refine Zacd (by assumption) (by decide +kernel) ?_ | refine Zacc (by decide +kernel) ?_ | refine Zacm (by decide +kernel) ?_ | refine Zacf ?_))
  exact ⟨z3,rfl,ho7⟩
end Go.Proofs.Yteechkbnccpicaa

namespace Go.Proofs.Yteechkbnccpicaa
open Go Go.AM
set_option maxRecDepth 10000

theorem Zabb (l:List Value):(Value.agg ⟨l⟩).cells.toList = l:=rfl
structure Lg where
  f:Int
  t:Int
  d:Int
  a:Int
  l:Int
  deriving Inhabited,DecidableEq
def legE:Enc Lg:=mapE (fun x:Lg => (x.f,x.t,x.d,x.a,x.l)) (prodE (intE .i64) (prodE (intE .i64) (prodE (intE .i64) (prodE (intE .i64) (intE .i64)))))
def lc (x:Lg):List Value:=[.int .i64 x.f,.int .i64 x.t,.int .i64 x.d,.int .i64 x.a,.int .i64 x.l]
def R64 (z:Int):Prop:=-9223372036854775808 ≤ z ∧ z ≤ 9223372036854775807
theorem legE_inv {H:Heap} {x:Lg} {cs:List Value} (h:legE.At H x cs):cs = lc x ∧ R64 x.f ∧ R64 x.t ∧ R64 x.d ∧ R64 x.a ∧ R64 x.l:=by
  obtain ⟨c1,c2,rfl,⟨rfl,h1⟩,c3,c4,rfl,⟨rfl,h2⟩,c5,c6,rfl,⟨rfl,h3⟩,c7,c8,rfl,⟨rfl,h4⟩,rfl,h5⟩:=h;exact ⟨rfl,h1,h2,h3,h4,h5⟩
abbrev SlG (H:Heap) (v:Value) (w:List Lg) (r o:Nat):Prop:=SlE legE H v w r o
theorem ldC (H:Heap) (r o:Nat):aLoad Try.prog H 3 (.pointer (some ⟨r,o,none⟩)) = (H.read r o 1).bind one1:=by kernel_rfl
theorem ldG (H:Heap) (r o:Nat):aLoad Try.prog H 61 (.pointer (some ⟨r,o,none⟩)) = (H.read r o 5).map fun l => .agg ⟨l⟩:=by kernel_rfl
theorem ldW (H:Heap) (r o:Nat):aLoad Try.prog H 72 (.pointer (some ⟨r,o,none⟩)) = (H.read r o 4).map fun l => .agg ⟨l⟩:=by kernel_rfl
theorem ldTt (H:Heap) (r o:Nat):aLoad Try.prog H 64 (.pointer (some ⟨r,o,none⟩)) = (H.read r o 3).map fun l => .agg ⟨l⟩:=by kernel_rfl
theorem ldLs (H:Heap) (r o:Nat):aLoad Try.prog H 22 (.pointer (some ⟨r,o,none⟩)) = (H.read r o 1).bind one1:=by kernel_rfl
theorem ldIs (H:Heap) (r o:Nat):aLoad Try.prog H 25 (.pointer (some ⟨r,o,none⟩)) = (H.read r o 1).bind one1:=by kernel_rfl
theorem lenG (a:Option Addr) (n c:Nat):aLen Try.prog #[22] (.slice a n c) = some (.int .i64 n):=by kernel_rfl
theorem lenIs (a:Option Addr) (n c:Nat):aLen Try.prog #[25] (.slice a n c) = some (.int .i64 n):=by kernel_rfl
theorem ixG (r o n c:Nat) (k:IntKind) (i:Int):Zaaa Try.prog 22 (.slice (some ⟨r,o,none⟩) n c) (.int k i) = if 0 ≤ i ∧ i < (n:Int) then some (.pointer (some ⟨r,o + i.toNat * 5,none⟩)) else none:=by kernel_rfl
theorem ixIs (r o n c:Nat) (k:IntKind) (i:Int):Zaaa Try.prog 25 (.slice (some ⟨r,o,none⟩) n c) (.int k i) = if 0 ≤ i ∧ i < (n:Int) then some (.pointer (some ⟨r,o + i.toNat * 1,none⟩)) else none:=by kernel_rfl
theorem faG0 (r o:Nat):aFieldAt Try.prog 61 0 (.pointer (some ⟨r,o,none⟩)) = some (.pointer (some ⟨r,o + 0,none⟩)):=by kernel_rfl
theorem faG1 (r o:Nat):aFieldAt Try.prog 61 1 (.pointer (some ⟨r,o,none⟩)) = some (.pointer (some ⟨r,o + 1,none⟩)):=by kernel_rfl
theorem faG2 (r o:Nat):aFieldAt Try.prog 61 2 (.pointer (some ⟨r,o,none⟩)) = some (.pointer (some ⟨r,o + 2,none⟩)):=by kernel_rfl
theorem faG3 (r o:Nat):aFieldAt Try.prog 61 3 (.pointer (some ⟨r,o,none⟩)) = some (.pointer (some ⟨r,o + 3,none⟩)):=by kernel_rfl
theorem faG4 (r o:Nat):aFieldAt Try.prog 61 4 (.pointer (some ⟨r,o,none⟩)) = some (.pointer (some ⟨r,o + 4,none⟩)):=by kernel_rfl
theorem faW0 (r o:Nat):aFieldAt Try.prog 72 0 (.pointer (some ⟨r,o,none⟩)) = some (.pointer (some ⟨r,o + 0,none⟩)):=by kernel_rfl
theorem faW1 (r o:Nat):aFieldAt Try.prog 72 1 (.pointer (some ⟨r,o,none⟩)) = some (.pointer (some ⟨r,o + 1,none⟩)):=by kernel_rfl
theorem faW2 (r o:Nat):aFieldAt Try.prog 72 2 (.pointer (some ⟨r,o,none⟩)) = some (.pointer (some ⟨r,o + 2,none⟩)):=by kernel_rfl
theorem faW3 (r o:Nat):aFieldAt Try.prog 72 3 (.pointer (some ⟨r,o,none⟩)) = some (.pointer (some ⟨r,o + 3,none⟩)):=by kernel_rfl
theorem faT0 (r o:Nat):aFieldAt Try.prog 64 0 (.pointer (some ⟨r,o,none⟩)) = some (.pointer (some ⟨r,o + 0,none⟩)):=by kernel_rfl
theorem faT1 (r o:Nat):aFieldAt Try.prog 64 1 (.pointer (some ⟨r,o,none⟩)) = some (.pointer (some ⟨r,o + 1,none⟩)):=by kernel_rfl
theorem faT2 (r o:Nat):aFieldAt Try.prog 64 2 (.pointer (some ⟨r,o,none⟩)) = some (.pointer (some ⟨r,o + 2,none⟩)):=by kernel_rfl
theorem SlG_at {H:Heap} {w:List Lg} {r o:Nat} {a:Option Addr} {cap:Nat} (h:SlG H (.slice a w.length cap) w r o) {k:Nat} (h1:k < w.length) :
    ∃ q,Zaaa Try.prog 22 (.slice a w.length cap) (.int .i64 (k:Int)) = some (.pointer (some ⟨r,q,none⟩)) ∧ H.read r q 5 = some (lc (w.getD k default)) ∧
      H.read r q 1 = some [.int .i64 (w.getD k default).f] ∧ H.read r (q + 1) 1 = some [.int .i64 (w.getD k default).t] ∧ H.read r (q + 2) 1 = some [.int .i64 (w.getD k default).d] ∧ H.read r (q + 3) 1 = some [.int .i64 (w.getD k default).a] ∧ H.read r (q + 4) 1 = some [.int .i64 (w.getD k default).l]:=by
  obtain ⟨a',cap',e,ha⟩:=h.isv;cases e;obtain ⟨es,h2,h3⟩:=h.rd k h1;obtain ⟨rfl,_⟩:=legE_inv h3;have h2:H.read r (o + k * 5) 5 = some (lc (w.getD k default)):=h2;have hs:=fun j (hj:j + 1 ≤ 5) => read_sub h2 hj
  refine ⟨o + k * 5,by rw [ha (by omega),ixG,if_pos ⟨by omega,by omega⟩,Int.toNat_natCast],h2,?_,hs 1 (by omega),hs 2 (by omega),hs 3 (by omega),hs 4 (by omega)⟩
  exact hs 0 (by omega)

def LegOk (n:Int) (x:Lg):Prop:=(0 ≤ x.f ∧ x.f ≤ n - 1) ∧ (0 ≤ x.t ∧ x.t ≤ n - 1) ∧ x.f ≠ x.t ∧ 0 ≤ x.d ∧ x.d < x.a ∧ x.a ≤ 10000 ∧ (0 ≤ x.l ∧ x.l ≤ 20)
instance (n:Int) (x:Lg):Decidable (LegOk n x):=by unfold LegOk; infer_instance

def BadT (z:Int):Prop:=¬ (0 ≤ z ∧ z ≤ 10000)
instance (z:Int):Decidable (BadT z):=by unfold BadT; infer_instance
def errC (n:Int) (ls:List Lg) (ch fr to:Int) (ts:List Int):Int:=
  if ¬ (1 ≤ n ∧ n ≤ 8) then 2 else if 60 < ls.length then 3 else if ¬ ∀ x ∈ ls,LegOk n x then 2 else
  if ¬ (0 ≤ ch ∧ ch ≤ 100) ∨ ¬ (0 ≤ fr ∧ fr ≤ n - 1) ∨ ¬ (0 ≤ to ∧ to ≤ n - 1) then 2 else if ¬ ∀ z ∈ ts,0 ≤ z ∧ z ≤ 10000 then 2 else 0
def PostC (H:Heap) (e:Int) (u:Value) (H':Heap):Prop:=u = .int .i64 e ∧ Keep H H'
theorem SlI_at {H:Heap} {w:List Int} {r o:Nat} {a:Option Addr} {cap:Nat} (h:SlI .i64 H (.slice a w.length cap) w r o) {k:Nat} (h1:k < w.length) :
    Zaaa Try.prog 25 (.slice a w.length cap) (.int .i64 (k:Int)) = some (.pointer (some ⟨r,o + k,none⟩)) ∧ H.read r (o + k) 1 = some [.int .i64 (w.getD k 0)]:=by
  obtain ⟨a',cap',e,ha⟩:=h.isv;cases e;exact ⟨by rw [ha (by omega),ixIs,if_pos ⟨by omega,by omega⟩,Int.toNat_natCast,Nat.mul_one],(h.rdI h1).1⟩
variable {S:AM.Sys} (hS:Only S 11)
include hS

theorem isWithin_runs (n lo hi:Int) (H:Heap):Runs Try.prog S (.fn 45) [.int .i64 n,.int .i64 lo,.int .i64 hi] H (.bool (decide (lo ≤ n ∧ n ≤ hi))) H:=by
  suffices h:WCall Try.prog S (.fn 45) [.int .i64 n,.int .i64 lo,.int .i64 hi] H (fun v H' => v = .bool (decide (lo ≤ n ∧ n ≤ hi)) ∧ H' = H) by
    obtain ⟨_,_,hr,rfl,rfl⟩:=h; exact hr
  refine Zaba Try.func45 rfl (Nat.le_of_ble_eq_true rfl) (hS.no rfl _ _) ?_
  rw [Try.ntmps45,Try.results45]
  by_cases h1:lo ≤ n
  · by_cases h2:n ≤ hi
    · have d:decide (lo ≤ n ∧ n ≤ hi) = true:=decide_eq_true ⟨h1,h2⟩
      repeat' (first | (with_reducible refine sxGuardB_tsp (fun h => ?_) (fun h => ?_)) | (with_reducible refine sxGuardB_fsp (fun h => ?_) (fun h => ?_)) | (with_reducible refine sxIfB_sp (fun h => ?_) (fun h => ?_)) | simp only [↓Zabx,↓Zabz,↓Zaby,↓Zacw,↓Zacv,↓Zadb,↓Zaaz,↓Zaau,↓Zaam,↓Zaav,↓Zaan,↓bxPut,↓Zabs,↓Zabq,↓Zacz,↓Zada,↓Zadc,↓Zabg,↓Zabe,↓dstAt,↓Zabh,Zacx,Zaae,Zabi,Zaad,Zacs,Zabm,↓reduceIte,Nat.reduceEqDiff,Nat.reduceLT,dec_T,and_self, *,argF,List.getD_cons_zero,List.getD_cons_succ])
    · have d:decide (lo ≤ n ∧ n ≤ hi) = false:=decide_eq_false fun h => h2 h.2
      repeat' (first | (with_reducible refine sxGuardB_tsp (fun h => ?_) (fun h => ?_)) | (with_reducible refine sxGuardB_fsp (fun h => ?_) (fun h => ?_)) | (with_reducible refine sxIfB_sp (fun h => ?_) (fun h => ?_)) | simp only [↓Zabx,↓Zabz,↓Zaby,↓Zacw,↓Zacv,↓Zadb,↓Zaaz,↓Zaau,↓Zaam,↓Zaav,↓Zaan,↓bxPut,↓Zabs,↓Zabq,↓Zacz,↓Zada,↓Zadc,↓Zabg,↓Zabe,↓dstAt,↓Zabh,Zacx,Zaae,Zabi,Zaad,Zacs,Zabm,↓reduceIte,Nat.reduceEqDiff,Nat.reduceLT,dec_T,dec_F,and_false,and_self, *,argF,List.getD_cons_zero,List.getD_cons_succ])
  · have d:decide (lo ≤ n ∧ n ≤ hi) = false:=decide_eq_false fun h => h1 h.1
    repeat' (first | (with_reducible refine sxGuardB_tsp (fun h => ?_) (fun h => ?_)) | (with_reducible refine sxGuardB_fsp (fun h => ?_) (fun h => ?_)) | (with_reducible refine sxIfB_sp (fun h => ?_) (fun h => ?_)) | simp only [↓Zabx,↓Zabz,↓Zaby,↓Zacw,↓Zacv,↓Zadb,↓Zaaz,↓Zaau,↓Zaam,↓Zaav,↓Zaan,↓bxPut,↓Zabs,↓Zabq,↓Zacz,↓Zada,↓Zadc,↓Zabg,↓Zabe,↓dstAt,↓Zabh,Zacx,Zaae,Zabi,Zaac,Zacr,Zabm,↓reduceIte,Nat.reduceEqDiff,Nat.reduceLT,dec_F,false_and,and_self, *,argF,List.getD_cons_zero,List.getD_cons_succ])

theorem isPlace_runs (n p:Int) (hn:1 ≤ n ∧ n ≤ 8) (H:Heap):Runs Try.prog S (.fn 55) [.int .i64 n,.int .i64 p] H (.bool (decide (0 ≤ p ∧ p ≤ n - 1))) H:=by
  suffices h:WCall Try.prog S (.fn 55) [.int .i64 n,.int .i64 p] H (fun v H' => v = .bool (decide (0 ≤ p ∧ p ≤ n - 1)) ∧ H' = H) by
    obtain ⟨_,_,hr,rfl,rfl⟩:=h; exact hr
  have hw:IntKind.i64.wrap (n - 1) = n - 1:=by rw [IntWalk.i64_in _ (by omega)]
  have f1:=(isWithin_runs hS p 0 (n - 1) H).bx;refine Zaba Try.func55 rfl (Nat.le_of_ble_eq_true rfl) (hS.no rfl _ _) ?_
  rw [Try.ntmps55,Try.results55]
  repeat' (first | (with_reducible refine sxGuardB_tsp (fun h => ?_) (fun h => ?_)) | (with_reducible refine sxGuardB_fsp (fun h => ?_) (fun h => ?_)) | (with_reducible refine sxIfB_sp (fun h => ?_) (fun h => ?_)) | simp only [↓Zabx,↓Zabz,↓Zaby,↓Zacw,↓Zacv,↓Zadb,↓Zaau,↓Zaam,↓Zaan,↓Zaay,↓bxPut,↓Zabs,↓Zabq,↓Zacz,↓Zada,↓Zadc,↓Zabg,↓Zabe,↓Zabf,Zacx,Zaae,Zabi,Zacb,Zabm,List.map,List.nil_append,List.append_nil,↓reduceIte,Nat.reduceEqDiff,Nat.reduceLT,and_self, *,argF,List.getD_cons_zero,List.getD_cons_succ])

omit hS in
theorem boxG (H:Heap) (x:Lg):∃ H1,H.newExact (lc x) 61 = H1 ∧ Keep H H1 ∧ H1.read H.size 0 5 = some (lc x) ∧ H1.read H.size 0 1 = some [.int .i64 x.f] ∧ H1.read H.size 1 1 = some [.int .i64 x.t] ∧ H1.read H.size 2 1 = some [.int .i64 x.d] ∧ H1.read H.size 3 1 = some [.int .i64 x.a] ∧ H1.read H.size 4 1 = some [.int .i64 x.l]:=by
  obtain ⟨H1,e1,hK1,hz1,hr1,hrs⟩:=boxS H (lc x) 61;exact ⟨H1,e1,hK1,hr1,hrs 0 1 (by show _ ≤ 5; decide),hrs 1 1 (by show _ ≤ 5; decide),hrs 2 1 (by show _ ≤ 5; decide),hrs 3 1 (by show _ ≤ 5; decide),hrs 4 1 (by show _ ≤ 5; decide)⟩

theorem isLeg_runs (n:Int) (hn:1 ≤ n ∧ n ≤ 8) (x:Lg) (H:Heap):∃ H',Keep H H' ∧ Runs Try.prog S (.fn 54) [.int .i64 n,.agg ⟨lc x⟩] H (.bool (decide (LegOk n x))) H':=by
  suffices h:WCall Try.prog S (.fn 54) [.int .i64 n,.agg ⟨lc x⟩] H (fun v H' => v = .bool (decide (LegOk n x)) ∧ Keep H H') by
    obtain ⟨_,H',hr,rfl,h⟩:=h; exact ⟨H',h,hr⟩
  obtain ⟨H1,e1,hK1,r5,r0,r1,r2,r3,r4⟩:=boxG H x;have f1:=(isPlace_runs hS n x.f hn H1).bx;have f2:=(isPlace_runs hS n x.t hn H1).bx;have f3:=(isWithin_runs hS x.l 0 20 H1).bx;have hgo:∃ b,b = decide (LegOk n x):=⟨_,rfl⟩;obtain ⟨b,hb⟩:=hgo;rw [← hb];refine Zaba Try.func54 rfl (Nat.le_of_ble_eq_true rfl) (hS.no rfl _ _) ?_
  rw [Try.ntmps54,Try.results54];have key:LegOk n x ↔ (0 ≤ x.f ∧ x.f ≤ n - 1) ∧ (0 ≤ x.t ∧ x.t ≤ n - 1) ∧ x.f ≠ x.t ∧ 0 ≤ x.d ∧ x.d < x.a ∧ x.a ≤ 10000 ∧ (0 ≤ x.l ∧ x.l ≤ 20):=Iff.rfl
  by_cases c1:(0 ≤ x.f ∧ x.f ≤ n - 1)
  case neg =>
    have d1:decide (0 ≤ x.f ∧ x.f ≤ n - 1) = false:=decide_eq_false c1;replace hb:b = false:=by rw [hb]; exact decide_eq_false fun h => c1 h.1
    subst hb;clear key c1
    repeat' (first | (with_reducible refine sxGuardB_tsp (fun h => ?_) (fun h => ?_)) | (with_reducible refine sxGuardB_fsp (fun h => ?_) (fun h => ?_)) | (with_reducible refine sxIfB_sp (fun h => ?_) (fun h => ?_)) | simp only [↓Zabx,↓Zabz,↓Zaby,↓Zacw,↓Zacv,↓Zadb,↓Zaaz,↓Zaau,↓Zaam,↓Zaav,↓bxOp_box,↓Zaat,↓Zaan,↓Zaaq,↓Zaay,↓bxPut,↓Zabs,↓Zabq,↓Zacz,↓Zada,↓Zadc,↓Zabg,↓Zabe,↓Zabf,↓dstAt,↓Zabh,Zacx,Zaac,Zacb,Zacr,Zabm,List.map,List.nil_append,List.append_nil,↓reduceIte,Nat.reduceEqDiff,Nat.reduceLT,and_self,Nat.add_zero,one1,Option.bind_some, *,argF,List.getD_cons_zero,List.getD_cons_succ,Zabb,faG0,ldC,one1])
  have d1:decide (0 ≤ x.f ∧ x.f ≤ n - 1) = true:=decide_eq_true c1
  by_cases c2:(0 ≤ x.t ∧ x.t ≤ n - 1)
  case neg =>
    have d2:decide (0 ≤ x.t ∧ x.t ≤ n - 1) = false:=decide_eq_false c2;replace hb:b = false:=by rw [hb]; exact decide_eq_false fun h => c2 h.2.1
    subst hb;clear key c1 c2
    repeat' (first | (with_reducible refine sxGuardB_tsp (fun h => ?_) (fun h => ?_)) | (with_reducible refine sxGuardB_fsp (fun h => ?_) (fun h => ?_)) | (with_reducible refine sxIfB_sp (fun h => ?_) (fun h => ?_)) | simp only [↓Zabx,↓Zabz,↓Zaby,↓Zacw,↓Zacv,↓Zadb,↓Zaaz,↓Zaau,↓Zaam,↓Zaav,↓bxOp_box,↓Zaat,↓Zaan,↓Zaaq,↓Zaay,↓bxPut,↓Zabs,↓Zabq,↓Zacz,↓Zada,↓Zadc,↓Zabg,↓Zabe,↓Zabf,↓dstAt,↓Zabh,Zacx,Zaad,Zaac,Zacb,Zacs,Zacr,Zabm,List.map,List.nil_append,List.append_nil,↓reduceIte,Nat.reduceEqDiff,Nat.reduceLT,and_self,Nat.add_zero,one1,Option.bind_some, *,argF,List.getD_cons_zero,List.getD_cons_succ,Zabb,faG0,faG1,ldC,one1])
  have d2:decide (0 ≤ x.t ∧ x.t ≤ n - 1) = true:=decide_eq_true c2
  by_cases c7:(0 ≤ x.l ∧ x.l ≤ 20)
  case neg =>
    have d7:decide (0 ≤ x.l ∧ x.l ≤ 20) = false:=decide_eq_false c7;replace hb:b = false:=by rw [hb]; exact decide_eq_false fun h => c7 h.2.2.2.2.2.2
    subst hb;clear key c1 c2 c7
    repeat' (first | (with_reducible refine sxGuardB_tsp (fun h => ?_) (fun h => ?_)) | (with_reducible refine sxGuardB_fsp (fun h => ?_) (fun h => ?_)) | (with_reducible refine sxIfB_sp (fun h => ?_) (fun h => ?_)) | simp only [↓Zabx,↓Zabz,↓Zaby,↓Zacw,↓Zacv,↓Zadb,↓Zaaz,↓Zaau,↓Zaam,↓Zaav,↓bxOp_box,↓Zaat,↓Zaan,↓Zaaq,↓Zaay,↓bxPut,↓Zabs,↓Zabq,↓Zacz,↓Zada,↓Zadc,↓Zabg,↓Zabe,↓Zabf,↓dstAt,↓Zabh,Zacx,Zaae,Zabi,Zaad,Zaac,Zacb,Zacs,Zacr,Zabm,List.map,List.nil_append,List.append_nil,↓reduceIte,Nat.reduceEqDiff,Nat.reduceLT,dec_T,dec_F,and_self,Nat.add_zero,one1,Option.bind_some,not_false_eq_true, *,argF,List.getD_cons_zero,List.getD_cons_succ,Zabb,faG0,faG1,faG2,faG3,faG4,ldC,one1])
  have d7:decide (0 ≤ x.l ∧ x.l ≤ 20) = true:=decide_eq_true c7;have hb2:b = true ↔ ¬ x.f = x.t ∧ 0 ≤ x.d ∧ x.d < x.a ∧ x.a ≤ 10000:=by
    rw [hb,decide_eq_true_iff,key];exact ⟨fun h => ⟨h.2.2.1,h.2.2.2.1,h.2.2.2.2.1,h.2.2.2.2.2.1⟩,fun h => ⟨c1,c2,h.1,h.2.1,h.2.2.1,h.2.2.2,c7⟩⟩
  clear key c1 c2 c7 hb
  by_cases c3:x.f = x.t
  · have d3:decide (¬ x.f = x.t) = false:=decide_eq_false fun h => h c3
    replace hb2:b = false:=by cases b with
      | false => rfl
      | true => exact absurd c3 (hb2.1 rfl).1
    subst hb2;clear c3
    repeat' (first | (with_reducible refine sxGuardB_tsp (fun h => ?_) (fun h => ?_)) | (with_reducible refine sxGuardB_fsp (fun h => ?_) (fun h => ?_)) | (with_reducible refine sxIfB_sp (fun h => ?_) (fun h => ?_)) | simp only [↓Zabx,↓Zabz,↓Zaby,↓Zacw,↓Zacv,↓Zadb,↓Zaaz,↓Zaau,↓Zaam,↓Zaav,↓bxOp_box,↓Zaat,↓Zaan,↓Zaaq,↓Zaay,↓bxPut,↓Zabs,↓Zabq,↓Zacz,↓Zada,↓Zadc,↓Zabg,↓Zabe,↓Zabf,↓dstAt,↓Zabh,Zacx,Zaae,Zabi,Zaad,Zaac,Zacb,Zacs,Zacr,Zabm,List.map,List.nil_append,List.append_nil,↓reduceIte,Nat.reduceEqDiff,Nat.reduceLT,and_self,Nat.add_zero,one1,Option.bind_some, *,argF,List.getD_cons_zero,List.getD_cons_succ,Zabb,faG0,faG1,ldC,one1])
  have d3:decide (¬ x.f = x.t) = true:=decide_eq_true c3
  by_cases c4:0 ≤ x.d
  case neg =>
    replace hb2:b = false:=by cases b with
      | false => rfl
      | true => exact absurd (hb2.1 rfl).2.1 c4
    subst hb2;clear c3
    repeat' (first | (with_reducible refine sxGuardB_tsp (fun h => ?_) (fun h => ?_)) | (with_reducible refine sxGuardB_fsp (fun h => ?_) (fun h => ?_)) | (with_reducible refine sxIfB_sp (fun h => ?_) (fun h => ?_)) | simp only [↓Zabx,↓Zabz,↓Zaby,↓Zacw,↓Zacv,↓Zadb,↓Zaaz,↓Zaau,↓Zaam,↓Zaav,↓bxOp_box,↓Zaat,↓Zaan,↓Zaaq,↓Zaay,↓bxPut,↓Zabs,↓Zabq,↓Zacz,↓Zada,↓Zadc,↓Zabg,↓Zabe,↓Zabf,↓dstAt,↓Zabh,Zacx,Zaae,Zabi,Zaad,Zaac,Zacb,Zacs,Zacr,Zabm,List.map,List.nil_append,List.append_nil,↓reduceIte,Nat.reduceEqDiff,Nat.reduceLT,dec_F,and_self,Nat.add_zero,one1,Option.bind_some, *,argF,List.getD_cons_zero,List.getD_cons_succ,Zabb,faG0,faG1,faG2,ldC,one1])
  by_cases c5:x.d < x.a
  case neg =>
    replace hb2:b = false:=by cases b with
      | false => rfl
      | true => exact absurd (hb2.1 rfl).2.2.1 c5
    subst hb2;clear c3
    repeat' (first | (with_reducible refine sxGuardB_tsp (fun h => ?_) (fun h => ?_)) | (with_reducible refine sxGuardB_fsp (fun h => ?_) (fun h => ?_)) | (with_reducible refine sxIfB_sp (fun h => ?_) (fun h => ?_)) | simp only [↓Zabx,↓Zabz,↓Zaby,↓Zacw,↓Zacv,↓Zadb,↓Zaaz,↓Zaau,↓Zaam,↓Zaav,↓bxOp_box,↓Zaat,↓Zaan,↓Zaaq,↓Zaay,↓bxPut,↓Zabs,↓Zabq,↓Zacz,↓Zada,↓Zadc,↓Zabg,↓Zabe,↓Zabf,↓dstAt,↓Zabh,Zacx,Zaae,Zabi,Zaad,Zaac,Zacb,Zacs,Zacr,Zabm,List.map,List.nil_append,List.append_nil,↓reduceIte,Nat.reduceEqDiff,Nat.reduceLT,dec_T,dec_F,and_self,Nat.add_zero,one1,Option.bind_some, *,argF,List.getD_cons_zero,List.getD_cons_succ,Zabb,faG0,faG1,faG2,faG3,ldC,one1])
  by_cases c6:x.a ≤ 10000
  case neg =>
    replace hb2:b = false:=by cases b with
      | false => rfl
      | true => exact absurd (hb2.1 rfl).2.2.2 c6
    subst hb2;clear c3
    repeat' (first | (with_reducible refine sxGuardB_tsp (fun h => ?_) (fun h => ?_)) | (with_reducible refine sxGuardB_fsp (fun h => ?_) (fun h => ?_)) | (with_reducible refine sxIfB_sp (fun h => ?_) (fun h => ?_)) | simp only [↓Zabx,↓Zabz,↓Zaby,↓Zacw,↓Zacv,↓Zadb,↓Zaaz,↓Zaau,↓Zaam,↓Zaav,↓bxOp_box,↓Zaat,↓Zaan,↓Zaaq,↓Zaay,↓bxPut,↓Zabs,↓Zabq,↓Zacz,↓Zada,↓Zadc,↓Zabg,↓Zabe,↓Zabf,↓dstAt,↓Zabh,Zacx,Zaae,Zabi,Zaad,Zaac,Zacb,Zacs,Zacr,Zabm,List.map,List.nil_append,List.append_nil,↓reduceIte,Nat.reduceEqDiff,Nat.reduceLT,dec_T,dec_F,and_self,Nat.add_zero,one1,Option.bind_some, *,argF,List.getD_cons_zero,List.getD_cons_succ,Zabb,faG0,faG1,faG2,faG3,ldC,one1])
  replace hb2:b = true:=hb2.2 ⟨c3,c4,c5,c6⟩;subst hb2;clear c3
  repeat' (first | (with_reducible refine sxGuardB_tsp (fun h => ?_) (fun h => ?_)) | (with_reducible refine sxGuardB_fsp (fun h => ?_) (fun h => ?_)) | (with_reducible refine sxIfB_sp (fun h => ?_) (fun h => ?_)) | simp only [↓Zabx,↓Zabz,↓Zaby,↓Zacw,↓Zacv,↓Zadb,↓Zaaz,↓Zaau,↓Zaam,↓Zaav,↓bxOp_box,↓Zaat,↓Zaan,↓Zaaq,↓Zaay,↓bxPut,↓Zabs,↓Zabq,↓Zacz,↓Zada,↓Zadc,↓Zabg,↓Zabe,↓Zabf,↓dstAt,↓Zabh,Zacx,Zaae,Zabi,Zaad,Zacb,Zacs,Zabm,List.map,List.nil_append,List.append_nil,↓reduceIte,Nat.reduceEqDiff,Nat.reduceLT,dec_T,and_self,Nat.add_zero,one1,Option.bind_some, *,argF,List.getD_cons_zero,List.getD_cons_succ,Zabb,faG0,faG1,faG2,faG3,faG4,ldC,one1])

end Go.Proofs.Yteechkbnccpicaa
