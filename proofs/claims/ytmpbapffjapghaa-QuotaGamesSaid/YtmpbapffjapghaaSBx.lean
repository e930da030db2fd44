/- The length of a number in bits. -/
import Derived.Test.YtmpbapffjapghaaR0s
import Derived.Sort.LotD1
set_option linter.unusedVariables false
set_option linter.unusedSimpArgs false
set_option linter.unusedSectionVars false

namespace Go.Proofs.Ytmpbapffjapghaa
open Go Go.AM
set_option maxRecDepth 10000
theorem sxOptB_tab {P:Program} {t:TypeId} {l:List UInt8} {K:Value → Prop} {b:Blk K} {x:Nat} (hstr:P.underlying t = some .string) (hl:Nat.beq l.length 256 = true) (ht:(List.range 256).all (fun y => Nat.beq (l.getD y 0).toNat (Sort.bitsLen y)) = true) (hx:x < 256) (hk:K (.int .u8 ((Sort.bitsLen x:Nat):Int))) :
    sxOptB (aIndex P t (.string ⟨l.toArray⟩) (.int .u8 (x:Int))) K b:=by
  have hll:=Nat.eq_of_beq_eq_true hl;have h1:=index_str (P:=P) (t:=t) hstr (l:=l) (k:=.u8) (i:=(x:Int)) (by omega) (by omega)
  have h2:(l.getD x 0).toNat = Sort.bitsLen x:=by
    have:=List.all_eq_true.1 ht x (List.mem_range.2 hx);exact Nat.eq_of_beq_eq_true this
  rw [Int.toNat_natCast,h2] at h1;have h3:aIndex P t (.string ⟨l.toArray⟩) (.int .u8 (x:Int)) = some (.int .u8 ((Sort.bitsLen x:Nat):Int)):=h1;rw [h3,Zafm];exact hk
theorem cv64 (z:Int):aConv Try.prog 88 5 (.int .u64 z) = some (.int .u8 (IntKind.u8.wrap z)):=by kernel_rfl
theorem cv8 (z:Int):aConv Try.prog 5 3 (.int .u8 z) = some (.int .i64 (IntKind.i64.wrap z)):=by kernel_rfl
theorem bitsLen_256 {x:Nat} (h:256 ≤ x):Sort.bitsLen x = 8 + Sort.bitsLen (x / 256):=by
  have h1:=Sort.lt_two_pow_bitsLen (x / 256);have h2:=Sort.lt_two_pow_bitsLen x;apply Nat.le_antisymm
  · rw [Sort.bitsLen_le_iff,Nat.pow_add];have:(2:Nat) ^ 8 = 256:=rfl;rw [this];omega
  · have h9:¬ Sort.bitsLen x ≤ 8:=fun hh => by
      have:=(Sort.bitsLen_le_iff x 8).1 hh;have e:(2:Nat) ^ 8 = 256:=rfl;omega
    have h3:Sort.bitsLen (x / 256) ≤ Sort.bitsLen x - 8:=by
      rw [Sort.bitsLen_le_iff];have e:(2:Nat) ^ Sort.bitsLen x = 2 ^ (Sort.bitsLen x - 8) * 256:=by
        rw [show (256:Nat) = 2 ^ 8 from rfl,← Nat.pow_add]
        congr 1; omega
      rw [e] at h2;exact Nat.div_lt_of_lt_mul (by omega)
    omega
theorem bitsLen_16 {x:Nat} (h:x < 65536):Sort.bitsLen x ≤ 16:=(Sort.bitsLen_le_iff x 16).2 h
variable {S:AM.Sys} (hS:Only S 5)
include hS

theorem bLen64_runs (x:Nat) (hx:x < 65536) (H:Heap):Runs Try.prog S (.fn 66) [.int .u64 (x:Int)] H (.int .i64 (Sort.bitsLen x:Int)) H:=by
  suffices h:WCall Try.prog S (.fn 66) [.int .u64 (x:Int)] H (fun v H' => v = .int .i64 (Sort.bitsLen x:Int) ∧ H' = H) by
    obtain ⟨_,_,hr,rfl,rfl⟩:=h; exact hr
  refine call_of Try.func66 rfl (Nat.le_of_ble_eq_true rfl) (hS.no rfl _ _) ?_
  rw [Try.ntmps66,Try.results66];have h1:¬ (4294967296:Int) ≤ (x:Int):=by omega
  have h2:¬ (65536:Int) ≤ (x:Int):=by omega
  by_cases h3:x < 256
  · have h3':¬ (256:Int) ≤ (x:Int):=by omega
    have hb:=bitsLen_16 hx;have hw:IntKind.u8.wrap (x:Int) = (x:Int):=IntWalk.u8_in _ (by omega)
    have hw2:IntKind.i64.wrap ((Sort.bitsLen x:Nat):Int) = ((Sort.bitsLen x:Nat):Int):=IntWalk.i64_in _ (by omega)
    have hw3:IntKind.i64.wrap (0 + ((Sort.bitsLen x:Nat):Int)) = ((Sort.bitsLen x:Nat):Int):=by rw [Int.zero_add]; exact hw2
    repeat' simp only [↓Zadl,↓Zadi,↓Zadk,↓Zaas,↓Zadj,↓Zafk,↓Zafj,↓Zafq,↓Zabt,↓Zaay,↓Zaaz,↓Zabk,↓Zabf,↓bxPut,↓Zadb,↓Zacy,↓Zafo,↓Zafp,↓Zafs,↓Zacj,↓Zacg,Zaaa,Zafm,Zaak,Zacm,Zafg,Zacs,↓reduceIte,Nat.reduceEqDiff,Nat.reduceLT,dec_F, *,argF,List.getD_cons_zero,cv64]
    refine sxOptB_tab Try.underlying9 (by kernel_rfl) (by kernel_rfl) h3 ?_
    repeat' simp only [↓bxPut,↓Zafs,Zaaa,Zafm,Zaak,Zacm,↓reduceIte,Nat.reduceEqDiff,Nat.reduceLT,and_self, *,cv8]
  · have h3':(256:Int) ≤ (x:Int):=by omega
    have d08:(0:Int) ≤ 8:=by decide
    have hsh:(x:Int).fdiv (2 ^ min (Int.toNat 8) IntKind.u64.bits) = ((x / 256:Nat):Int):=by
      show (x:Int).fdiv 256 = _;rw [Int.fdiv_eq_ediv_of_nonneg _ (by decide)]; omega
    have hb:=bitsLen_16 (show x / 256 < 65536 by omega)
    have h4:x / 256 < 256:=by omega
    have hw:IntKind.u8.wrap ((x / 256:Nat):Int) = ((x / 256:Nat):Int):=IntWalk.u8_in _ (by omega)
    have hw1:IntKind.i64.wrap (0 + 8) = 8:=by decide
    have hw2:IntKind.i64.wrap ((Sort.bitsLen (x / 256):Nat):Int) = ((Sort.bitsLen (x / 256):Nat):Int):=IntWalk.i64_in _ (by omega)
    have h256:=bitsLen_256 (show 256 ≤ x by omega)
    have hw3:IntKind.i64.wrap (8 + ((Sort.bitsLen (x / 256):Nat):Int)) = ((Sort.bitsLen x:Nat):Int):=by rw [h256,IntWalk.i64_in _ (by omega)]; simp
    clear h256
    repeat' simp only [↓Zadl,↓Zadi,↓Zadk,↓Zaas,↓Zadj,↓Zafk,↓Zafj,↓Zafq,↓Zabt,↓Zaay,↓Zaaz,↓Zabk,↓Zabf,↓bxPut,↓Zadb,↓Zacy,↓Zafo,↓Zafp,↓Zafs,↓Zacj,↓Zacg,Zaaa,Zafm,Zaak,Zacm,Zafi,Zafg,Zacs,↓reduceIte,Nat.reduceEqDiff,Nat.reduceLT,dec_T,dec_F, *,argF,List.getD_cons_zero,cv64]
    refine sxOptB_tab Try.underlying9 (by kernel_rfl) (by kernel_rfl) h4 ?_
    repeat' simp only [↓bxPut,↓Zafs,Zaaa,Zafm,Zaak,Zacm,↓reduceIte,Nat.reduceEqDiff,Nat.reduceLT,and_self, *,cv8]

theorem bLen_runs (x:Nat) (hx:x < 65536) (H:Heap):Runs Try.prog S (.fn 50) [.int .u64 (x:Int)] H (.int .i64 (Sort.bitsLen x:Int)) H:=by
  suffices h:WCall Try.prog S (.fn 50) [.int .u64 (x:Int)] H (fun v H' => v = .int .i64 (Sort.bitsLen x:Int) ∧ H' = H) by
    obtain ⟨_,_,hr,rfl,rfl⟩:=h; exact hr
  have f1:=(bLen64_runs hS x hx H).bx;refine call_of Try.func50 rfl (Nat.le_of_ble_eq_true rfl) (hS.no rfl _ _) ?_
  rw [Try.ntmps50,Try.results50]
  repeat' simp only [↓Zadl,↓Zadi,↓Zadk,↓Zaas,↓Zadj,↓Zafk,↓Zafj,↓Zafq,↓Zabt,↓Zaay,↓Zabz,↓Zabf,↓bxPut,↓Zadb,↓Zadc,↓Zacy,↓Zafo,↓Zafp,↓Zafs,↓Zacj,↓Zacg,↓Zach,Zadm,Zafg,Zacs,List.map,List.nil_append,List.append_nil,↓reduceIte,Nat.reduceEqDiff,Nat.reduceLT,and_self, *,argF,List.getD_cons_zero]

omit hS in
theorem cvIU (z:Int):aConv Try.prog 3 75 (.int .i64 z) = some (.int .u64 (IntKind.u64.wrap z)):=by kernel_rfl
theorem nextPow_runs (x:Nat) (hx:x < 65536) (H:Heap):Runs Try.prog S (.fn 69) [.int .i64 (x:Int)] H (.int .u64 ((2 ^ Sort.bitsLen x:Nat):Int)) H:=by
  suffices h:WCall Try.prog S (.fn 69) [.int .i64 (x:Int)] H (fun v H' => v = .int .u64 ((2 ^ Sort.bitsLen x:Nat):Int) ∧ H' = H) by
    obtain ⟨_,_,hr,rfl,rfl⟩:=h; exact hr
  have f1:=(bLen_runs hS x hx H).bx;have hw:IntKind.u64.wrap (x:Int) = (x:Int):=IntWalk.u64_in _ (by omega)
  refine call_of Try.func69 rfl (Nat.le_of_ble_eq_true rfl) (hS.no rfl _ _) ?_
  rw [Try.ntmps69,Try.results69]
  repeat' simp only [↓Zadi,↓Zadk,↓Zadj,↓Zafk,↓Zafj,↓Zafq,↓Zabt,↓Zaay,↓Zaaz,↓Zabz,↓Zabf,↓bxPut,↓Zadb,↓Zacy,↓Zafo,↓Zafp,↓Zafs,↓Zacj,↓Zacg,↓Zach,Zaaa,Zafm,Zaal,Zacm,Zadm,Zacs,List.map,List.nil_append,List.append_nil,↓reduceIte,Nat.reduceEqDiff,Nat.reduceLT,and_true,Int.natCast_nonneg,Int.toNat_natCast, *,argF,List.getD_cons_zero,cvIU]
  have hb:=bitsLen_16 hx;have hp:2 ^ Sort.bitsLen x ≤ 2 ^ 16:=Nat.pow_le_pow_right (by decide) hb
  have hmn:min (Sort.bitsLen x) IntKind.u64.bits = Sort.bitsLen x:=Nat.min_eq_left (show Sort.bitsLen x ≤ 64 by omega)
  rw [hmn,Int.one_mul,show (2:Int) ^ Sort.bitsLen x = ((2 ^ Sort.bitsLen x:Nat):Int) by simp]
  exact congrArg _ (IntWalk.u64_in _ ⟨Int.natCast_nonneg _,Int.le_trans (Int.ofNat_le.2 hp) (by decide)⟩)

omit hS in
theorem ownD {H0 H:Heap} {s:Nat} {z z':Int} (ho:Own H s 90 [.int .u64 z]) (hk:KeepX s H0 H) (hL:H0.low ≤ H0.size) :
    ∃ H2 H3,aStore Try.prog (H.relow H.size) 90 (.pointer (some ⟨s,0,none⟩)) (.int .u64 z') = some H2 ∧ H2.relow (Nat.min H.low H2.low) = H3 ∧ Own H3 s 90 [.int .u64 z'] ∧ KeepX s H0 H3 ∧ H3.low ≤ H3.size ∧ H3.read s 0 1 = some [.int .u64 z']:=by
  have hi:∃ i,Try.prog.info? 90 = some i ∧ i.size = 1:=Option.map_eq_some_iff.1 (show (Try.prog.info? 90).map (·.size) = some 1 by kernel_rfl)
  obtain ⟨i,hi,hs⟩:=hi;obtain ⟨H2,h1,h2,h3,h4⟩:=(ho.addr (l:=H.size)).storeX (o:=0) (t:=90) hi (v:=.int .u64 z') (new:=[.int .u64 z']) rfl hs rfl (by simp)
  have h2:Own H2 s 90 [.int .u64 z']:=by simpa [splice] using h2
  have hk3:=hk.draw h3 (.inl rfl);have ho3:Own (H2.relow (Nat.min H.low H2.low)) s 90 [.int .u64 z']:=h2.addr;refine ⟨H2,_,h1,rfl,ho3,hk3,hk3.low hL,?_⟩;have:=ho3.read (o:=0) (n:=1) (by simp)
  simpa using this
theorem xorNext_runs (z:Int) (s:Nat) (H:Heap) (ho:Own H s 90 [.int .u64 z]) (hL:H.low ≤ H.size):∃ z' H',Runs Try.prog S (.fn 70) [.pointer (some ⟨s,0,none⟩)] H (.int .u64 z') H' ∧ Own H' s 90 [.int .u64 z'] ∧ KeepX s H H':=by
  suffices h:WCall Try.prog S (.fn 70) [.pointer (some ⟨s,0,none⟩)] H (fun v H' => ∃ z',v = .int .u64 z' ∧ Own H' s 90 [.int .u64 z'] ∧ KeepX s H H') by
    obtain ⟨_,H',hr,z',rfl,h⟩:=h; exact ⟨z',H',hr,h⟩
  have rd:H.read s 0 1 = some [.int .u64 z]:=by
    have:=ho.read (o:=0) (n:=1) (by simp)
    simpa using this
  have d13:(0:Int) ≤ 13:=by decide
  have d7:(0:Int) ≤ 7:=by decide
  have d17:(0:Int) ≤ 17:=by decide
  have ldx:∀ (H:Heap) (r o:Nat),aLoad Try.prog H 90 (.pointer (some ⟨r,o,none⟩)) = (H.read r o 1).bind one1:=fun H r o => by kernel_rfl
  have nc:∀ a:Addr,aNilCheck (.pointer (some a)) = some (.pointer (some a)):=fun a => rfl
  have e1:∃ z1:Int,IntKind.u64.wrap ((BitVec.ofInt IntKind.u64.bits z ^^^ BitVec.ofInt IntKind.u64.bits (IntKind.u64.wrap (z * 2 ^ min (Int.toNat 13) IntKind.u64.bits))).toNat:Int) = z1:=⟨_,rfl⟩;obtain ⟨z1,e1⟩:=e1;have e2:∃ z2:Int,IntKind.u64.wrap ((BitVec.ofInt IntKind.u64.bits z1 ^^^ BitVec.ofInt IntKind.u64.bits (z1.fdiv (2 ^ min (Int.toNat 7) IntKind.u64.bits))).toNat:Int) = z2:=⟨_,rfl⟩;obtain ⟨z2,e2⟩:=e2;have e3:∃ z3:Int,IntKind.u64.wrap ((BitVec.ofInt IntKind.u64.bits z2 ^^^ BitVec.ofInt IntKind.u64.bits (IntKind.u64.wrap (z2 * 2 ^ min (Int.toNat 17) IntKind.u64.bits))).toNat:Int) = z3:=⟨_,rfl⟩;obtain ⟨z3,e3⟩:=e3;obtain ⟨H2,H3,s2,g3,ho3,hk3,hL3,rd3⟩:=ownD (z':=z1) ho (KeepX.refl s H) hL;obtain ⟨H4,H5,s4,g5,ho5,hk5,hL5,rd5⟩:=ownD (z':=z2) ho3 hk3 hL;obtain ⟨H6,H7,s6,g7,ho7,hk7,hL7,rd7⟩:=ownD (z':=z3) ho5 hk5 hL;clear ho ho3 ho5 hk3 hk5;refine call_of Try.func70 rfl (Nat.le_of_ble_eq_true rfl) (hS.no rfl _ _) ?_
  rw [Try.ntmps70,Try.results70]
  repeat' (first | simp only [↓Zadf,↓Zadi,↓Zadk,↓Zadj,↓Zafk,↓Zafj,↓Zaey,↓Zaau,↓Zaeo,↓Zaeg,↓Zaeq,↓Zads,↓Zaex,↓Zafq,↓Zabt,↓Zaay,↓Zabn,↓Zabx,↓Zabu,↓Zaaz,↓Zafn,↓bxPut,↓Zadb,↓Zacy,↓Zafo,↓Zafp,↓Zafs,↓Zacj,↓Zacg,Zafm,Zaak,Zacm,Zacs,↓reduceIte,Nat.reduceEqDiff,Nat.reduceLT,and_true,Zacv,one1,Option.bind_some, *,argF,List.getD_cons_zero,one1] | (with_reducible first | refine Zadr (by assumption) (by decide +kernel) ?_ | refine Zadq (by decide +kernel) ?_ | refine Zaew (by decide +kernel) ?_ | refine Zadw ?_))
  exact ⟨z3,rfl,ho7⟩
end Go.Proofs.Ytmpbapffjapghaa
