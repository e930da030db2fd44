/- What the game wants of the other texts. -/
import Derived.KernelRfl
import Derived.Test.YtmpbapffjapghaaProg
import Derived.Test.YtmpbapffjapghaaGj
set_option linter.unusedVariables false
set_option linter.unusedSimpArgs false
set_option linter.unusedSectionVars false

namespace Go.Proofs.Ytmpbapffjapghaa
open Go Go.AM
set_option maxRecDepth 10000

/-! The words of the program. -/
theorem ldI (H:Heap) (r o:Nat):aLoad Try.prog H 3 (.pointer (some ⟨r,o,none⟩)) = (H.read r o 1).bind one1:=by kernel_rfl
theorem ldIs (H:Heap) (r o:Nat):aLoad Try.prog H 22 (.pointer (some ⟨r,o,none⟩)) = (H.read r o 1).bind one1:=by kernel_rfl
theorem lenI (a:Option Addr) (n c:Nat):aLen Try.prog #[22] (.slice a n c) = some (.int .i64 n):=by kernel_rfl
theorem ixI (r o n c:Nat) (k:IntKind) (i:Int):Zaad Try.prog 22 (.slice (some ⟨r,o,none⟩) n c) (.int k i) = if 0 ≤ i ∧ i < (n:Int) then some (.pointer (some ⟨r,o + i.toNat * 1,none⟩)) else none:=by kernel_rfl
theorem SlI_ix {H:Heap} {w:List Int} {r o:Nat} {a:Option Addr} {cap:Nat} (h:SlI .i64 H (.slice a w.length cap) w r o) {k:Nat} (h1:k < w.length) :
    Zaad Try.prog 22 (.slice a w.length cap) (.int .i64 (k:Int)) = some (.pointer (some ⟨r,o + k,none⟩)):=by
  obtain ⟨a',cap',e,ha⟩:=h.isv;cases e;rw [ha (by omega),ixI,if_pos ⟨by omega,by omega⟩,Int.toNat_natCast,Nat.mul_one]
theorem infoI:∃ i z,Try.prog.info? 3 = some i ∧ i.size = 1 ∧ i.zero = some z ∧ plain z = true ∧ z.cells.toList.length = 1 ∧ i.bytes ≤ 65536:=⟨Try.t3,.int .i64 0,by kernel_rfl,by kernel_rfl,by kernel_rfl,by kernel_rfl,by kernel_rfl,of_decide_eq_true (by kernel_rfl)⟩
variable {S:AM.Sys} (hS:Only S 5)
include hS

end Go.Proofs.Ytmpbapffjapghaa
namespace Go.Proofs.Ytmpbapffjapghaa
open Go Go.AM
set_option maxRecDepth 10000

theorem mkI (H:Heap) {l:Int} (h0:0 ≤ l) (h1:l ≤ 268435456):aMakeSlice Try.prog H 22 (.int .i64 l) (.int .i64 l) = some (.slice (some ⟨H.size,0,none⟩) l.toNat l.toNat,H.newExact ((List.replicate l.toNat (0:Int)).map fun z => .int .i64 z) 3):=by
  have h2:=makeSlice_eq (P:=Try.prog) (t:=22) (e:=3) (inf:=Try.t3) (z:=.int .i64 0) Try.underlying22 (by kernel_rfl) (by kernel_rfl) rfl (by kernel_rfl) (of_decide_eq_true (by kernel_rfl)) H .i64 .i64 h0 h1
  rw [h2];have h3:Try.t3.size = 1:=by kernel_rfl
  rw [h3,Nat.mul_one,List.map_replicate];rfl
variable {S:AM.Sys} (hS:Only S 5)
include hS

end Go.Proofs.Ytmpbapffjapghaa
namespace Go.Proofs.Ytmpbapffjapghaa.Q
open Go Go.AM
set_option maxRecDepth 10000

/-! The words of the program. -/
theorem ldI (H:Heap) (r o:Nat):aLoad Try.prog H 3 (.pointer (some ⟨r,o,none⟩)) = (H.read r o 1).bind one1:=by kernel_rfl
theorem lenI (a:Option Addr) (n c:Nat):aLen Try.prog #[22] (.slice a n c) = some (.int .i64 n):=by kernel_rfl
theorem ixI (r o n c:Nat) (k:IntKind) (i:Int):Zaad Try.prog 22 (.slice (some ⟨r,o,none⟩) n c) (.int k i) = if 0 ≤ i ∧ i < (n:Int) then some (.pointer (some ⟨r,o + i.toNat * 1,none⟩)) else none:=by kernel_rfl
theorem SlI_ix {H:Heap} {w:List Int} {r o:Nat} {a:Option Addr} {cap:Nat} (h:SlI .i64 H (.slice a w.length cap) w r o) {k:Nat} (h1:k < w.length) :
    Zaad Try.prog 22 (.slice a w.length cap) (.int .i64 (k:Int)) = some (.pointer (some ⟨r,o + k,none⟩)):=by
  obtain ⟨a',cap',e,ha⟩:=h.isv;cases e;rw [ha (by omega),ixI,if_pos ⟨by omega,by omega⟩,Int.toNat_natCast,Nat.mul_one]

/-! Sums. -/
theorem sum_take_succ (w:List Int) {k:Nat} (h:k < w.length):(w.take (k + 1)).sum = (w.take k).sum + w.getD k 0:=by
  rw [List.take_add_one,List.getElem?_eq_getElem h,List.sum_append,List.getD_eq_getElem?_getD,List.getElem?_eq_getElem h];simp
theorem sum_take_le (w:List Int) (hp:∀ x ∈ w,0 ≤ x) (k:Nat):0 ≤ (w.take k).sum ∧ (w.take k).sum ≤ w.sum:=by
  have h0:∀ l:List Int,(∀ x ∈ l,0 ≤ x) → 0 ≤ l.sum:=fun l => by
    induction l with
    | nil => intro _; simp
    | cons a l ih => intro h; rw [List.sum_cons]; have:=ih (fun x hx => h x (List.mem_cons_of_mem _ hx)); have:=h a List.mem_cons_self; omega
  refine ⟨h0 _ fun x hx => hp x (List.mem_of_mem_take hx),?_⟩
  have h1:(w.take k).sum + (w.drop k).sum = w.sum:=by rw [← List.sum_append,List.take_append_drop]
  have:=h0 (w.drop k) fun x hx => hp x (List.mem_of_mem_drop hx)
  omega
theorem sum_le (B:Int) (w:List Int) (h:∀ x ∈ w,x ≤ B):w.sum ≤ w.length * B:=by
  induction w with
  | nil => simp
  | cons a l ih =>
    rw [List.sum_cons,List.length_cons];have h1:=ih fun x hx => h x (List.mem_cons_of_mem _ hx)
    have h2:=h a List.mem_cons_self;have:((l.length + 1:Nat):Int) * B = l.length * B + B:=by rw [Int.natCast_add,Int.add_mul]; simp
    omega

variable {S:AM.Sys} (hS:Only S 5)
include hS

theorem isWithin_runs (n a b:Int) (H:Heap):Runs Try.prog S (.fn 23) [.int .i64 n,.int .i64 a,.int .i64 b] H (.bool (decide (a ≤ n ∧ n ≤ b))) H:=by
  suffices h:WCall Try.prog S (.fn 23) [.int .i64 n,.int .i64 a,.int .i64 b] H (fun v H' => v = .bool (decide (a ≤ n ∧ n ≤ b)) ∧ H' = H) by
    obtain ⟨_,_,hr,rfl,rfl⟩:=h; exact hr
  refine call_of Try.func23 rfl (Nat.le_of_ble_eq_true rfl) (hS.no rfl _ _) ?_
  rw [Try.ntmps23,Try.results23]
  repeat' (first | (with_reducible refine Zafd (fun h => ?_) (fun h => ?_)) | (with_reducible refine Zafa (fun h => ?_) (fun h => ?_)) | (with_reducible refine Zafh (fun h => ?_) (fun h => ?_)) | simp only [↓Zadl,↓Zadf,↓Zadi,↓Zadk,↓Zaas,↓Zaat,↓Zade,↓Zadg,↓Zadh,↓Zadj,↓Zafk,↓Zafj,↓Zaey,↓Zaau,↓Zaeo,↓Zadp,↓Zaer,↓Zado,↓Zadt,↓Zadu,↓Zadv,↓Zaef,↓Zaeg,↓Zaeq,↓Zads,↓Zaev,↓Zadx,↓Zaej,↓Zaei,↓Zaek,↓Zael,↓Zaet,↓Zaec,↓Zaeb,↓Zaee,↓Zaed,↓Zaeu,↓Zaea,↓Zaeh,↓Zaen,↓Zaes,↓Zaep,↓Zady,↓Zaem,↓Zadz,↓Zaex,↓Zafq,↓Zacb,↓Zabt,↓Zaay,↓Zabv,↓Zaav,↓Zaba,↓Zabb,↓Zabc,↓Zabn,↓Zabx,↓Zabu,↓Zaaz,↓Zaby,↓Zabp,↓Zabo,↓Zabq,↓Zabw,↓Zabj,↓Zabi,↓Zabl,↓Zabk,↓Zaax,↓Zabh,↓Zabz,↓Zabm,↓Zabd,↓Zaaw,↓Zabg,↓Zabe,↓Zabr,↓Zabs,↓Zabf,↓Zafn,↓bxPut,↓Zadb,↓Zacz,↓Zadc,↓Zada,↓Zaaq,↓Zaar,↓Zaap,↓Zaao,↓Zacp,↓Zacn,↓Zacq,↓Zaco,↓Zacx,↓Zacy,↓Zafo,↓Zafp,↓Zaca,↓Zafs,↓Zacj,↓Zacg,↓Zaci,↓Zach,↓dstAt,↓Zacl,Zacd,Zacf,Zace,Zaan,eql_str,neq_str,Zaaa,Zaac,Zaab,Zaai,Zaah,Zaaj,Zafm,Zafl,mm_max,mm_min,Zaal,Zaam,Zaak,Zacm,Zafr,una_nt,una_nf,una_neg,Zaag,Zaaf,Zadm,Zadn,Zaff,Zafe,Zafc,Zafb,Zaez,Zafi,Zafg,Zacs,Zact,List.map,List.nil_append,List.cons_append,List.append_nil,↓reduceIte,Nat.reduceEqDiff,Nat.reduceLT,dec_T,dec_F,Zack,true_and,and_true,true_implies,implies_true,false_and,and_false,true_or,or_true,false_or,or_false,and_self,or_self,Zacv,Zadd,Zacr,Zacw,Zaae,Nat.add_zero,Nat.mul_one,one1,Option.bind_some,ne_eq,Int.natCast_nonneg,Int.toNat_natCast,not_true_eq_false,not_false_eq_true,Option.map_some,Option.map_none, *,argF,List.getD_cons_zero,List.getD_cons_succ] | (with_reducible first | refine Zadr (by assumption) (by decide +kernel) ?_ | refine Zadq (by decide +kernel) ?_ | refine Zaew (by decide +kernel) ?_ | refine Zadw ?_))

theorem isProblemL_runs (n:Int) (H:Heap):Runs Try.prog S (.fn 25) [.int .i64 n] H (.bool (decide (¬ (0 ≤ n ∧ n ≤ 100000)))) H:=by
  suffices h:WCall Try.prog S (.fn 25) [.int .i64 n] H (fun v H' => v = .bool (decide (¬ (0 ≤ n ∧ n ≤ 100000))) ∧ H' = H) by
    obtain ⟨_,_,hr,rfl,rfl⟩:=h; exact hr
  refine call_of Try.func25 rfl (Nat.le_of_ble_eq_true rfl) (hS.no rfl _ _) ?_
  rw [Try.ntmps25,Try.results25];have hb:=(isWithin_runs hS n 0 100000 H).bx
  repeat' (first | (with_reducible refine Zafd (fun h => ?_) (fun h => ?_)) | (with_reducible refine Zafa (fun h => ?_) (fun h => ?_)) | (with_reducible refine Zafh (fun h => ?_) (fun h => ?_)) | simp only [↓Zadl,↓Zadf,↓Zadi,↓Zadk,↓Zaas,↓Zaat,↓Zade,↓Zadg,↓Zadh,↓Zadj,↓Zafk,↓Zafj,↓Zaey,↓Zaau,↓Zaeo,↓Zadp,↓Zaer,↓Zado,↓Zadt,↓Zadu,↓Zadv,↓Zaef,↓Zaeg,↓Zaeq,↓Zads,↓Zaev,↓Zadx,↓Zaej,↓Zaei,↓Zaek,↓Zael,↓Zaet,↓Zaec,↓Zaeb,↓Zaee,↓Zaed,↓Zaeu,↓Zaea,↓Zaeh,↓Zaen,↓Zaes,↓Zaep,↓Zady,↓Zaem,↓Zadz,↓Zaex,↓Zafq,↓Zacb,↓Zabt,↓Zaay,↓Zabv,↓Zaav,↓Zaba,↓Zabb,↓Zabc,↓Zabn,↓Zabx,↓Zabu,↓Zaaz,↓Zaby,↓Zabp,↓Zabo,↓Zabq,↓Zabw,↓Zabj,↓Zabi,↓Zabl,↓Zabk,↓Zaax,↓Zabh,↓Zabz,↓Zabm,↓Zabd,↓Zaaw,↓Zabg,↓Zabe,↓Zabr,↓Zabs,↓Zabf,↓Zafn,↓bxPut,↓Zadb,↓Zacz,↓Zadc,↓Zada,↓Zaaq,↓Zaar,↓Zaap,↓Zaao,↓Zacp,↓Zacn,↓Zacq,↓Zaco,↓Zacx,↓Zacy,↓Zafo,↓Zafp,↓Zaca,↓Zafs,↓Zacj,↓Zacg,↓Zaci,↓Zach,↓dstAt,↓Zacl,Zacd,Zacf,Zace,Zaan,eql_str,neq_str,Zaaa,Zaac,Zaab,Zaai,Zaah,Zaaj,Zafm,Zafl,mm_max,mm_min,Zaal,Zaam,Zaak,Zacm,Zafr,una_nt,una_nf,una_neg,Zaag,Zaaf,Zadm,Zadn,Zaff,Zafe,Zafc,Zafb,Zaez,Zafi,Zafg,Zacs,Zact,List.map,List.nil_append,List.cons_append,List.append_nil,↓reduceIte,Nat.reduceEqDiff,Nat.reduceLT,dec_T,dec_F,Zack,true_and,and_true,true_implies,implies_true,false_and,and_false,true_or,or_true,false_or,or_false,and_self,or_self,Zacv,Zadd,Zacr,Zacw,Zaae,Nat.add_zero,Nat.mul_one,one1,Option.bind_some,ne_eq,Int.natCast_nonneg,Int.toNat_natCast,not_true_eq_false,not_false_eq_true,Option.map_some,Option.map_none, *,argF,List.getD_cons_zero,List.getD_cons_succ,hb] | (with_reducible first | refine Zadr (by assumption) (by decide +kernel) ?_ | refine Zadq (by decide +kernel) ?_ | refine Zaew (by decide +kernel) ?_ | refine Zadw ?_))

theorem total_runs (v:Value) (w:List Int) (r o:Nat) (H:Heap) (hl:SlI .i64 H v w r o) (hp:∀ x ∈ w,0 ≤ x) (hs:w.sum ≤ 9223372036854775807):Runs Try.prog S (.fn 26) [v] H (.int .i64 w.sum) H:=by
  suffices h:WCall Try.prog S (.fn 26) [v] H (fun v H' => v = .int .i64 w.sum ∧ H' = H) by
    obtain ⟨_,_,hr,rfl,rfl⟩:=h; exact hr
  obtain ⟨a,cap,rfl⟩:=hl.v0;refine call_of Try.func26 rfl (Nat.le_of_ble_eq_true rfl) (hS.no rfl _ _) ?_
  rw [Try.ntmps26,Try.results26]
  repeat' (first | (with_reducible refine Zafd (fun h => ?_) (fun h => ?_)) | (with_reducible refine Zafa (fun h => ?_) (fun h => ?_)) | (with_reducible refine Zafh (fun h => ?_) (fun h => ?_)) | simp only [↓Zadl,↓Zadf,↓Zadi,↓Zadk,↓Zaas,↓Zaat,↓Zade,↓Zadg,↓Zadh,↓Zadj,↓Zafk,↓Zafj,↓Zaey,↓Zaau,↓Zaeo,↓Zadp,↓Zaer,↓Zado,↓Zadt,↓Zadu,↓Zadv,↓Zaef,↓Zaeg,↓Zaeq,↓Zads,↓Zaev,↓Zadx,↓Zaej,↓Zaei,↓Zaek,↓Zael,↓Zaet,↓Zaec,↓Zaeb,↓Zaee,↓Zaed,↓Zaeu,↓Zaea,↓Zaeh,↓Zaen,↓Zaes,↓Zaep,↓Zady,↓Zaem,↓Zadz,↓Zaex,↓Zafq,↓Zacb,↓Zabt,↓Zaay,↓Zabv,↓Zaav,↓Zaba,↓Zabb,↓Zabc,↓Zabn,↓Zabx,↓Zabu,↓Zaaz,↓Zaby,↓Zabp,↓Zabo,↓Zabq,↓Zabw,↓Zabj,↓Zabi,↓Zabl,↓Zabk,↓Zaax,↓Zabh,↓Zabz,↓Zabm,↓Zabd,↓Zaaw,↓Zabg,↓Zabe,↓Zabr,↓Zabs,↓Zabf,↓Zafn,↓bxPut,↓Zadb,↓Zacz,↓Zadc,↓Zada,↓Zaaq,↓Zaar,↓Zaap,↓Zaao,↓Zacp,↓Zacn,↓Zacq,↓Zaco,↓Zacx,↓Zacy,↓Zafo,↓Zafp,↓Zaca,↓Zafs,↓Zacj,↓Zacg,↓Zaci,↓Zach,↓dstAt,↓Zacl,Zacd,Zacf,Zace,Zaan,eql_str,neq_str,Zaaa,Zaac,Zaab,Zaai,Zaah,Zaaj,Zafm,Zafl,mm_max,mm_min,Zaal,Zaam,Zaak,Zacm,Zafr,una_nt,una_nf,una_neg,Zaag,Zaaf,Zadm,Zadn,Zaff,Zafe,Zafc,Zafb,Zaez,Zafi,Zafg,Zacs,Zact,List.map,List.nil_append,List.cons_append,List.append_nil,↓reduceIte,Nat.reduceEqDiff,Nat.reduceLT,dec_T,dec_F,Zack,true_and,and_true,true_implies,implies_true,false_and,and_false,true_or,or_true,false_or,or_false,and_self,or_self,Zacv,Zadd,Zacr,Zacw,Zaae,Nat.add_zero,Nat.mul_one,one1,Option.bind_some,ne_eq,Int.natCast_nonneg,Int.toNat_natCast,not_true_eq_false,not_false_eq_true,Option.map_some,Option.map_none, *,argF,List.getD_cons_zero,List.getD_cons_succ,lenI] | (with_reducible first | refine Zadr (by assumption) (by decide +kernel) ?_ | refine Zadq (by decide +kernel) ?_ | refine Zaew (by decide +kernel) ?_ | refine Zadw ?_))
  refine sxL_of (fun m ρ H1 => ∃ k:Nat,m = w.length - k ∧ k ≤ w.length ∧ H1 = H ∧ ρ 3 = .int .i64 (w.take k).sum ∧ ρ 6 = .slice a w.length cap ∧ ρ 7 = .int .i64 w.length ∧ ρ 8 = .int .i64 k)
    ⟨0,rfl,Nat.zero_le _,rfl,rfl,rfl,rfl,rfl⟩ ?_
  rintro m ρ H1 ⟨k,rfl,hk,rfl,e3,e6,e7,e8⟩
  by_cases hlt:k < w.length
  · have hix:=SlI_ix hl hlt;have hrd:=(hl.rdI hlt).1;have hw:=wrap_succ hlt hl.ml;have hlt':(k:Int) < (w.length:Int):=by omega
    have g1:=sum_take_succ w hlt;have g2:=sum_take_le w hp (k + 1);have g3:IntKind.i64.wrap ((w.take k).sum + w.getD k 0) = (w.take (k + 1)).sum:=by rw [← g1]; exact IntWalk.i64_in _ (by omega)
    clear hl g1 g2
    repeat' (first | (with_reducible refine Zafd (fun h => ?_) (fun h => ?_)) | (with_reducible refine Zafa (fun h => ?_) (fun h => ?_)) | (with_reducible refine Zafh (fun h => ?_) (fun h => ?_)) | simp only [↓Zadl,↓Zadf,↓Zadi,↓Zadk,↓Zaas,↓Zaat,↓Zade,↓Zadg,↓Zadh,↓Zadj,↓Zafk,↓Zafj,↓Zaey,↓Zaau,↓Zaeo,↓Zadp,↓Zaer,↓Zado,↓Zadt,↓Zadu,↓Zadv,↓Zaef,↓Zaeg,↓Zaeq,↓Zads,↓Zaev,↓Zadx,↓Zaej,↓Zaei,↓Zaek,↓Zael,↓Zaet,↓Zaec,↓Zaeb,↓Zaee,↓Zaed,↓Zaeu,↓Zaea,↓Zaeh,↓Zaen,↓Zaes,↓Zaep,↓Zady,↓Zaem,↓Zadz,↓Zaex,↓Zafq,↓Zacb,↓Zabt,↓Zaay,↓Zabv,↓Zaav,↓Zaba,↓Zabb,↓Zabc,↓Zabn,↓Zabx,↓Zabu,↓Zaaz,↓Zaby,↓Zabp,↓Zabo,↓Zabq,↓Zabw,↓Zabj,↓Zabi,↓Zabl,↓Zabk,↓Zaax,↓Zabh,↓Zabz,↓Zabm,↓Zabd,↓Zaaw,↓Zabg,↓Zabe,↓Zabr,↓Zabs,↓Zabf,↓Zafn,↓bxPut,↓Zadb,↓Zacz,↓Zadc,↓Zada,↓Zaaq,↓Zaar,↓Zaap,↓Zaao,↓Zacp,↓Zacn,↓Zacq,↓Zaco,↓Zacx,↓Zacy,↓Zafo,↓Zafp,↓Zaca,↓Zafs,↓Zacj,↓Zacg,↓Zaci,↓Zach,↓dstAt,↓Zacl,Zacd,Zacf,Zace,Zaan,eql_str,neq_str,Zaaa,Zaac,Zaab,Zaai,Zaah,Zaaj,Zafm,Zafl,mm_max,mm_min,Zaal,Zaam,Zaak,Zacm,Zafr,una_nt,una_nf,una_neg,Zaag,Zaaf,Zadm,Zadn,Zaff,Zafe,Zafc,Zafb,Zaez,Zafi,Zafg,Zacs,Zact,List.map,List.nil_append,List.cons_append,List.append_nil,↓reduceIte,Nat.reduceEqDiff,Nat.reduceLT,dec_T,dec_F,Zack,true_and,and_true,true_implies,implies_true,false_and,and_false,true_or,or_true,false_or,or_false,and_self,or_self,Zacv,Zadd,Zacr,Zacw,Zaae,Nat.add_zero,Nat.mul_one,one1,Option.bind_some,ne_eq,Int.natCast_nonneg,Int.toNat_natCast,not_true_eq_false,not_false_eq_true,Option.map_some,Option.map_none, *,lenI,ldI] | (with_reducible first | refine Zadr (by assumption) (by decide +kernel) ?_ | refine Zadq (by decide +kernel) ?_ | refine Zaew (by decide +kernel) ?_ | refine Zadw ?_))
    exact ⟨_,by omega,k + 1,rfl,by omega,rfl,rfl⟩
  · have hlt':¬ (k:Int) < (w.length:Int):=by omega
    obtain rfl:k = w.length:=by omega
    have g:(w.take w.length).sum = w.sum:=by rw [List.take_length]
    clear hl
    repeat' (first | (with_reducible refine Zafd (fun h => ?_) (fun h => ?_)) | (with_reducible refine Zafa (fun h => ?_) (fun h => ?_)) | (with_reducible refine Zafh (fun h => ?_) (fun h => ?_)) | simp only [↓Zadl,↓Zadf,↓Zadi,↓Zadk,↓Zaas,↓Zaat,↓Zade,↓Zadg,↓Zadh,↓Zadj,↓Zafk,↓Zafj,↓Zaey,↓Zaau,↓Zaeo,↓Zadp,↓Zaer,↓Zado,↓Zadt,↓Zadu,↓Zadv,↓Zaef,↓Zaeg,↓Zaeq,↓Zads,↓Zaev,↓Zadx,↓Zaej,↓Zaei,↓Zaek,↓Zael,↓Zaet,↓Zaec,↓Zaeb,↓Zaee,↓Zaed,↓Zaeu,↓Zaea,↓Zaeh,↓Zaen,↓Zaes,↓Zaep,↓Zady,↓Zaem,↓Zadz,↓Zaex,↓Zafq,↓Zacb,↓Zabt,↓Zaay,↓Zabv,↓Zaav,↓Zaba,↓Zabb,↓Zabc,↓Zabn,↓Zabx,↓Zabu,↓Zaaz,↓Zaby,↓Zabp,↓Zabo,↓Zabq,↓Zabw,↓Zabj,↓Zabi,↓Zabl,↓Zabk,↓Zaax,↓Zabh,↓Zabz,↓Zabm,↓Zabd,↓Zaaw,↓Zabg,↓Zabe,↓Zabr,↓Zabs,↓Zabf,↓Zafn,↓bxPut,↓Zadb,↓Zacz,↓Zadc,↓Zada,↓Zaaq,↓Zaar,↓Zaap,↓Zaao,↓Zacp,↓Zacn,↓Zacq,↓Zaco,↓Zacx,↓Zacy,↓Zafo,↓Zafp,↓Zaca,↓Zafs,↓Zacj,↓Zacg,↓Zaci,↓Zach,↓dstAt,↓Zacl,Zacd,Zacf,Zace,Zaan,eql_str,neq_str,Zaaa,Zaac,Zaab,Zaai,Zaah,Zaaj,Zafm,Zafl,mm_max,mm_min,Zaal,Zaam,Zaak,Zacm,Zafr,una_nt,una_nf,una_neg,Zaag,Zaaf,Zadm,Zadn,Zaff,Zafe,Zafc,Zafb,Zaez,Zafi,Zafg,Zacs,Zact,List.map,List.nil_append,List.cons_append,List.append_nil,↓reduceIte,Nat.reduceEqDiff,Nat.reduceLT,dec_T,dec_F,Zack,true_and,and_true,true_implies,implies_true,false_and,and_false,true_or,or_true,false_or,or_false,and_self,or_self,Zacv,Zadd,Zacr,Zacw,Zaae,Nat.add_zero,Nat.mul_one,one1,Option.bind_some,ne_eq,Int.natCast_nonneg,Int.toNat_natCast,not_true_eq_false,not_false_eq_true,Option.map_some,Option.map_none, *,lenI,ldI] | (with_reducible first | refine Zadr (by assumption) (by decide +kernel) ?_ | refine Zadq (by decide +kernel) ?_ | refine Zaew (by decide +kernel) ?_ | refine Zadw ?_))

theorem ifInt_runs (p:Int → Prop) [DecidablePred p] (v:Value) (w:List Int) (r o:Nat) (H:Heap) (hl:SlI .i64 H v w r o)
    {g:FuncId} {cs:List Value} (hp:∀ H1,Keep H H1 → ∀ z,∃ H2,Keep H1 H2 ∧ Runs Try.prog S (.fn g) (.int .i64 z :: cs) H1 (.bool (decide (p z))) H2) :
    ∃ H' k,Keep H H' ∧ Runs Try.prog S (.fn 47) [v,.func (.func g) #[] ⟨cs⟩] H (.int .i64 k) H' ∧ ((k = -1 ∧ ∀ x ∈ w,¬ p x) ∨ (∃ j:Nat,k = j ∧ j < w.length ∧ p (w.getD j 0) ∧ ∀ i,i < j → ¬ p (w.getD i 0))):=by
  suffices h:WCall Try.prog S (.fn 47) [v,.func (.func g) #[] ⟨cs⟩] H (fun v H' => ∃ k,v = .int .i64 k ∧ Keep H H' ∧ ((k = -1 ∧ ∀ x ∈ w,¬ p x) ∨ (∃ j:Nat,k = j ∧ j < w.length ∧ p (w.getD j 0) ∧ ∀ i,i < j → ¬ p (w.getD i 0)))) by
    obtain ⟨_,H',hr,k,rfl,hk,hi⟩:=h; exact ⟨H',k,hk,hr,hi⟩
  obtain ⟨a,cap,rfl⟩:=hl.v0;refine call_of Try.func47 rfl (Nat.le_of_ble_eq_true rfl) (hS.no rfl _ _) ?_
  rw [Try.ntmps47,Try.results47]
  repeat' (first | (with_reducible refine Zafd (fun h => ?_) (fun h => ?_)) | (with_reducible refine Zafa (fun h => ?_) (fun h => ?_)) | (with_reducible refine Zafh (fun h => ?_) (fun h => ?_)) | simp only [↓Zadl,↓Zadf,↓Zadi,↓Zadk,↓Zaas,↓Zaat,↓Zade,↓Zadg,↓Zadh,↓Zadj,↓Zafk,↓Zafj,↓Zaey,↓Zaau,↓Zaeo,↓Zadp,↓Zaer,↓Zado,↓Zadt,↓Zadu,↓Zadv,↓Zaef,↓Zaeg,↓Zaeq,↓Zads,↓Zaev,↓Zadx,↓Zaej,↓Zaei,↓Zaek,↓Zael,↓Zaet,↓Zaec,↓Zaeb,↓Zaee,↓Zaed,↓Zaeu,↓Zaea,↓Zaeh,↓Zaen,↓Zaes,↓Zaep,↓Zady,↓Zaem,↓Zadz,↓Zaex,↓Zafq,↓Zacb,↓Zabt,↓Zaay,↓Zabv,↓Zaav,↓Zaba,↓Zabb,↓Zabc,↓Zabn,↓Zabx,↓Zabu,↓Zaaz,↓Zaby,↓Zabp,↓Zabo,↓Zabq,↓Zabw,↓Zabj,↓Zabi,↓Zabl,↓Zabk,↓Zaax,↓Zabh,↓Zabz,↓Zabm,↓Zabd,↓Zaaw,↓Zabg,↓Zabe,↓Zabr,↓Zabs,↓Zabf,↓Zafn,↓bxPut,↓Zadb,↓Zacz,↓Zadc,↓Zada,↓Zaaq,↓Zaar,↓Zaap,↓Zaao,↓Zacp,↓Zacn,↓Zacq,↓Zaco,↓Zacx,↓Zacy,↓Zafo,↓Zafp,↓Zaca,↓Zafs,↓Zacj,↓Zacg,↓Zaci,↓Zach,↓dstAt,↓Zacl,Zacd,Zacf,Zace,Zaan,eql_str,neq_str,Zaaa,Zaac,Zaab,Zaai,Zaah,Zaaj,Zafm,Zafl,mm_max,mm_min,Zaal,Zaam,Zaak,Zacm,Zafr,una_nt,una_nf,una_neg,Zaag,Zaaf,Zadm,Zadn,Zaff,Zafe,Zafc,Zafb,Zaez,Zafi,Zafg,Zacs,Zact,List.map,List.nil_append,List.cons_append,List.append_nil,↓reduceIte,Nat.reduceEqDiff,Nat.reduceLT,dec_T,dec_F,Zack,true_and,and_true,true_implies,implies_true,false_and,and_false,true_or,or_true,false_or,or_false,and_self,or_self,Zacv,Zadd,Zacr,Zacw,Zaae,Nat.add_zero,Nat.mul_one,one1,Option.bind_some,ne_eq,Int.natCast_nonneg,Int.toNat_natCast,not_true_eq_false,not_false_eq_true,Option.map_some,Option.map_none, *,argF,List.getD_cons_zero,List.getD_cons_succ,lenI] | (with_reducible first | refine Zadr (by assumption) (by decide +kernel) ?_ | refine Zadq (by decide +kernel) ?_ | refine Zaew (by decide +kernel) ?_ | refine Zadw ?_))
  refine sxL_of (fun m ρ H1 => ∃ k:Nat,m = w.length - k ∧ k ≤ w.length ∧ Keep H H1 ∧ (∀ j,j < k → ¬ p (w.getD j 0)) ∧ ρ 0 = .slice a w.length cap ∧
    ρ 1 = .func (.func g) #[] ⟨cs⟩ ∧ ρ 7 = .int .i64 w.length ∧ ρ 8 = .int .i64 k) ⟨0,rfl,Nat.zero_le _,Keep.refl _,fun j hj => absurd hj (Nat.not_lt_zero j),rfl,rfl,rfl,rfl⟩ ?_
  rintro m ρ H1 ⟨k,rfl,hk,hK,hall,e0,e1,e7,e8⟩;have hl1:=hl.keep hK;have hix:=fun h:k < w.length => SlI_ix hl1 h
  have hrd:=fun h:k < w.length => (hl1.rdI h).1
  obtain ⟨H2,hK2,hr2⟩:=hp H1 hK (w.getD k 0);have hb:=hr2.bx
  by_cases hlt:k < w.length
  · have hix:=hix hlt;have hrd:=hrd hlt;have hw:=wrap_succ hlt hl.ml;have hlt':(k:Int) < (w.length:Int):=by omega
    clear hl1 hr2
    repeat' (first | (with_reducible refine Zafd (fun h => ?_) (fun h => ?_)) | (with_reducible refine Zafa (fun h => ?_) (fun h => ?_)) | (with_reducible refine Zafh (fun h => ?_) (fun h => ?_)) | simp only [↓Zadl,↓Zadf,↓Zadi,↓Zadk,↓Zaas,↓Zaat,↓Zade,↓Zadg,↓Zadh,↓Zadj,↓Zafk,↓Zafj,↓Zaey,↓Zaau,↓Zaeo,↓Zadp,↓Zaer,↓Zado,↓Zadt,↓Zadu,↓Zadv,↓Zaef,↓Zaeg,↓Zaeq,↓Zads,↓Zaev,↓Zadx,↓Zaej,↓Zaei,↓Zaek,↓Zael,↓Zaet,↓Zaec,↓Zaeb,↓Zaee,↓Zaed,↓Zaeu,↓Zaea,↓Zaeh,↓Zaen,↓Zaes,↓Zaep,↓Zady,↓Zaem,↓Zadz,↓Zaex,↓Zafq,↓Zacb,↓Zabt,↓Zaay,↓Zabv,↓Zaav,↓Zaba,↓Zabb,↓Zabc,↓Zabn,↓Zabx,↓Zabu,↓Zaaz,↓Zaby,↓Zabp,↓Zabo,↓Zabq,↓Zabw,↓Zabj,↓Zabi,↓Zabl,↓Zabk,↓Zaax,↓Zabh,↓Zabz,↓Zabm,↓Zabd,↓Zaaw,↓Zabg,↓Zabe,↓Zabr,↓Zabs,↓Zabf,↓Zafn,↓bxPut,↓Zadb,↓Zacz,↓Zadc,↓Zada,↓Zaaq,↓Zaar,↓Zaap,↓Zaao,↓Zacp,↓Zacn,↓Zacq,↓Zaco,↓Zacx,↓Zacy,↓Zafo,↓Zafp,↓Zaca,↓Zafs,↓Zacj,↓Zacg,↓Zaci,↓Zach,↓dstAt,↓Zacl,Zacd,Zacf,Zace,Zaan,eql_str,neq_str,Zaaa,Zaac,Zaab,Zaai,Zaah,Zaaj,Zafm,Zafl,mm_max,mm_min,Zaal,Zaam,Zaak,Zacm,Zafr,una_nt,una_nf,una_neg,Zaag,Zaaf,Zadm,Zadn,Zaff,Zafe,Zafc,Zafb,Zaez,Zafi,Zafg,Zacs,Zact,List.map,List.nil_append,List.cons_append,List.append_nil,↓reduceIte,Nat.reduceEqDiff,Nat.reduceLT,dec_T,dec_F,Zack,true_and,and_true,true_implies,implies_true,false_and,and_false,true_or,or_true,false_or,or_false,and_self,or_self,Zacv,Zadd,Zacr,Zacw,Zaae,Nat.add_zero,Nat.mul_one,one1,Option.bind_some,ne_eq,Int.natCast_nonneg,Int.toNat_natCast,not_true_eq_false,not_false_eq_true,Option.map_some,Option.map_none, *,lenI,ldI] | (with_reducible first | refine Zadr (by assumption) (by decide +kernel) ?_ | refine Zadq (by decide +kernel) ?_ | refine Zaew (by decide +kernel) ?_ | refine Zadw ?_))
    · exact ⟨k,rfl,hK.trans hK2,.inr ⟨k,rfl,hlt,‹_›,hall⟩⟩
    · exact ⟨_,by omega,k + 1,rfl,by omega,hK.trans hK2,fun j hj => by
        rcases Nat.lt_or_ge j k with h | h
        · exact hall j h
        · rw [show j = k by omega]; assumption,rfl⟩
  · have hlt':¬ (k:Int) < (w.length:Int):=by omega
    clear hl1 hr2;obtain rfl:k = w.length:=by omega
    repeat' (first | (with_reducible refine Zafd (fun h => ?_) (fun h => ?_)) | (with_reducible refine Zafa (fun h => ?_) (fun h => ?_)) | (with_reducible refine Zafh (fun h => ?_) (fun h => ?_)) | simp only [↓Zadl,↓Zadf,↓Zadi,↓Zadk,↓Zaas,↓Zaat,↓Zade,↓Zadg,↓Zadh,↓Zadj,↓Zafk,↓Zafj,↓Zaey,↓Zaau,↓Zaeo,↓Zadp,↓Zaer,↓Zado,↓Zadt,↓Zadu,↓Zadv,↓Zaef,↓Zaeg,↓Zaeq,↓Zads,↓Zaev,↓Zadx,↓Zaej,↓Zaei,↓Zaek,↓Zael,↓Zaet,↓Zaec,↓Zaeb,↓Zaee,↓Zaed,↓Zaeu,↓Zaea,↓Zaeh,↓Zaen,↓Zaes,↓Zaep,↓Zady,↓Zaem,↓Zadz,↓Zaex,↓Zafq,↓Zacb,↓Zabt,↓Zaay,↓Zabv,↓Zaav,↓Zaba,↓Zabb,↓Zabc,↓Zabn,↓Zabx,↓Zabu,↓Zaaz,↓Zaby,↓Zabp,↓Zabo,↓Zabq,↓Zabw,↓Zabj,↓Zabi,↓Zabl,↓Zabk,↓Zaax,↓Zabh,↓Zabz,↓Zabm,↓Zabd,↓Zaaw,↓Zabg,↓Zabe,↓Zabr,↓Zabs,↓Zabf,↓Zafn,↓bxPut,↓Zadb,↓Zacz,↓Zadc,↓Zada,↓Zaaq,↓Zaar,↓Zaap,↓Zaao,↓Zacp,↓Zacn,↓Zacq,↓Zaco,↓Zacx,↓Zacy,↓Zafo,↓Zafp,↓Zaca,↓Zafs,↓Zacj,↓Zacg,↓Zaci,↓Zach,↓dstAt,↓Zacl,Zacd,Zacf,Zace,Zaan,eql_str,neq_str,Zaaa,Zaac,Zaab,Zaai,Zaah,Zaaj,Zafm,Zafl,mm_max,mm_min,Zaal,Zaam,Zaak,Zacm,Zafr,una_nt,una_nf,una_neg,Zaag,Zaaf,Zadm,Zadn,Zaff,Zafe,Zafc,Zafb,Zaez,Zafi,Zafg,Zacs,Zact,List.map,List.nil_append,List.cons_append,List.append_nil,↓reduceIte,Nat.reduceEqDiff,Nat.reduceLT,dec_T,dec_F,Zack,true_and,and_true,true_implies,implies_true,false_and,and_false,true_or,or_true,false_or,or_false,and_self,or_self,Zacv,Zadd,Zacr,Zacw,Zaae,Nat.add_zero,Nat.mul_one,one1,Option.bind_some,ne_eq,Int.natCast_nonneg,Int.toNat_natCast,not_true_eq_false,not_false_eq_true,Option.map_some,Option.map_none, *,lenI,ldI] | (with_reducible first | refine Zadr (by assumption) (by decide +kernel) ?_ | refine Zadq (by decide +kernel) ?_ | refine Zaew (by decide +kernel) ?_ | refine Zadw ?_))
    exact ⟨-1,rfl,.inl ⟨rfl,all_of hall⟩⟩

theorem cfInt_runs (p:Int → Prop) [DecidablePred p] (v:Value) (w:List Int) (r o:Nat) (H:Heap) (hl:SlI .i64 H v w r o)
    {g:FuncId} {cs:List Value} (hp:∀ H1,Keep H H1 → ∀ z,∃ H2,Keep H1 H2 ∧ Runs Try.prog S (.fn g) (.int .i64 z :: cs) H1 (.bool (decide (p z))) H2) :
    ∃ H',Keep H H' ∧ Runs Try.prog S (.fn 24) [v,.func (.func g) #[] ⟨cs⟩] H (.bool (decide (¬ ∀ x ∈ w,¬ p x))) H':=by
  obtain ⟨H',k,hK,hR,hk⟩:=ifInt_runs hS p v w r o H hl hp;refine ⟨H',hK,?_⟩;have hk':0 ≤ k ↔ ¬ ∀ x ∈ w,¬ p x:=by
    rcases hk with ⟨rfl,h⟩ | ⟨j,rfl,h1,h2,h3⟩
    · exact ⟨fun h => by omega,fun hn => absurd h hn⟩
    · exact ⟨fun _ hn => hn _ (getD_mem h1) h2,fun _ => by omega⟩
  suffices h:WCall Try.prog S (.fn 24) [v,.func (.func g) #[] ⟨cs⟩] H (fun v' H1 => v' = .bool (decide (¬ ∀ x ∈ w,¬ p x)) ∧ H1 = H') by
    obtain ⟨_,_,hr,rfl,rfl⟩:=h; exact hr
  refine call_of Try.func24 rfl (Nat.le_of_ble_eq_true rfl) (hS.no rfl _ _) ?_
  rw [Try.ntmps24,Try.results24];have hb:=hR.bx;clear hR hp
  repeat' (first | (with_reducible refine Zafd (fun h => ?_) (fun h => ?_)) | (with_reducible refine Zafa (fun h => ?_) (fun h => ?_)) | (with_reducible refine Zafh (fun h => ?_) (fun h => ?_)) | simp only [↓Zadl,↓Zadf,↓Zadi,↓Zadk,↓Zaas,↓Zaat,↓Zade,↓Zadg,↓Zadh,↓Zadj,↓Zafk,↓Zafj,↓Zaey,↓Zaau,↓Zaeo,↓Zadp,↓Zaer,↓Zado,↓Zadt,↓Zadu,↓Zadv,↓Zaef,↓Zaeg,↓Zaeq,↓Zads,↓Zaev,↓Zadx,↓Zaej,↓Zaei,↓Zaek,↓Zael,↓Zaet,↓Zaec,↓Zaeb,↓Zaee,↓Zaed,↓Zaeu,↓Zaea,↓Zaeh,↓Zaen,↓Zaes,↓Zaep,↓Zady,↓Zaem,↓Zadz,↓Zaex,↓Zafq,↓Zacb,↓Zabt,↓Zaay,↓Zabv,↓Zaav,↓Zaba,↓Zabb,↓Zabc,↓Zabn,↓Zabx,↓Zabu,↓Zaaz,↓Zaby,↓Zabp,↓Zabo,↓Zabq,↓Zabw,↓Zabj,↓Zabi,↓Zabl,↓Zabk,↓Zaax,↓Zabh,↓Zabz,↓Zabm,↓Zabd,↓Zaaw,↓Zabg,↓Zabe,↓Zabr,↓Zabs,↓Zabf,↓Zafn,↓bxPut,↓Zadb,↓Zacz,↓Zadc,↓Zada,↓Zaaq,↓Zaar,↓Zaap,↓Zaao,↓Zacp,↓Zacn,↓Zacq,↓Zaco,↓Zacx,↓Zacy,↓Zafo,↓Zafp,↓Zaca,↓Zafs,↓Zacj,↓Zacg,↓Zaci,↓Zach,↓dstAt,↓Zacl,Zacd,Zacf,Zace,Zaan,eql_str,neq_str,Zaaa,Zaac,Zaab,Zaai,Zaah,Zaaj,Zafm,Zafl,mm_max,mm_min,Zaal,Zaam,Zaak,Zacm,Zafr,una_nt,una_nf,una_neg,Zaag,Zaaf,Zadm,Zadn,Zaff,Zafe,Zafc,Zafb,Zaez,Zafi,Zafg,Zacs,Zact,List.map,List.nil_append,List.cons_append,List.append_nil,↓reduceIte,Nat.reduceEqDiff,Nat.reduceLT,dec_T,dec_F,Zack,true_and,and_true,true_implies,implies_true,false_and,and_false,true_or,or_true,false_or,or_false,and_self,or_self,Zacv,Zadd,Zacr,Zacw,Zaae,Nat.add_zero,Nat.mul_one,one1,Option.bind_some,ne_eq,Int.natCast_nonneg,Int.toNat_natCast,not_true_eq_false,not_false_eq_true,Option.map_some,Option.map_none, *,argF,List.getD_cons_zero,List.getD_cons_succ] | (with_reducible first | refine Zadr (by assumption) (by decide +kernel) ?_ | refine Zadq (by decide +kernel) ?_ | refine Zaew (by decide +kernel) ?_ | refine Zadw ?_))
  all_goals first
    | exact bool_d hk'
    | skip


def Prob (e:Int) (c:List Int):Prop:=(0 ≤ e ∧ e ≤ 100000) ∧ (1 ≤ (c.length:Int) ∧ (c.length:Int) ≤ 7) ∧ (∀ x ∈ c,0 ≤ x ∧ x ≤ 100000) ∧ e ≤ c.sum
instance (e:Int) (c:List Int):Decidable (Prob e c):=by unfold Prob; infer_instance

theorem isProblem_runs (e:Int) (v:Value) (w:List Int) (r o:Nat) (H:Heap) (hl:SlI .i64 H v w r o) :
    ∃ H',Keep H H' ∧ Runs Try.prog S (.fn 14) [.int .i64 e,v] H (.bool (decide (Prob e w))) H':=by
  suffices h:WCall Try.prog S (.fn 14) [.int .i64 e,v] H (fun v H' => v = .bool (decide (Prob e w)) ∧ Keep H H') by
    obtain ⟨_,H',hr,rfl,hk⟩:=h; exact ⟨H',hk,hr⟩
  obtain ⟨a,cap,rfl⟩:=hl.v0;refine call_of Try.func14 rfl (Nat.le_of_ble_eq_true rfl) (hS.no rfl _ _) ?_
  rw [Try.ntmps14,Try.results14];obtain ⟨H2,hK2,hR2⟩:=cfInt_runs hS (fun n => ¬ (0 ≤ n ∧ n ≤ 100000)) _ w r o H hl (g:=25) (cs:=[]) fun H1 _ z => ⟨H1,Keep.refl _,isProblemL_runs hS z H1⟩
  have hb:=hR2.bx;have hb1:=(isWithin_runs hS e 0 100000 H).bx;have hb2:=(isWithin_runs hS (w.length:Int) 1 7 H).bx;have hy:notYield (.func 25) = true:=rfl;clear hR2
  by_cases hw:∀ x ∈ w,0 ≤ x ∧ x ≤ 100000
  · have hw':∀ x ∈ w,¬¬ (0 ≤ x ∧ x ≤ 100000):=fun x hx h => h (hw x hx)
    by_cases hn:w.length ≤ 7
    · have hs:=sum_le 100000 w fun x hx => (hw x hx).2
      have hb3:=(total_runs hS _ w r o H2 (hl.keep hK2) (fun x hx => (hw x hx).1) (by omega)).bx
      clear hs
      repeat' (first | (with_reducible refine Zafd (fun h => ?_) (fun h => ?_)) | (with_reducible refine Zafa (fun h => ?_) (fun h => ?_)) | (with_reducible refine Zafh (fun h => ?_) (fun h => ?_)) | simp only [↓Zadl,↓Zadf,↓Zadi,↓Zadk,↓Zaas,↓Zaat,↓Zade,↓Zadg,↓Zadh,↓Zadj,↓Zafk,↓Zafj,↓Zaey,↓Zaau,↓Zaeo,↓Zadp,↓Zaer,↓Zado,↓Zadt,↓Zadu,↓Zadv,↓Zaef,↓Zaeg,↓Zaeq,↓Zads,↓Zaev,↓Zadx,↓Zaej,↓Zaei,↓Zaek,↓Zael,↓Zaet,↓Zaec,↓Zaeb,↓Zaee,↓Zaed,↓Zaeu,↓Zaea,↓Zaeh,↓Zaen,↓Zaes,↓Zaep,↓Zady,↓Zaem,↓Zadz,↓Zaex,↓Zafq,↓Zacb,↓Zabt,↓Zaay,↓Zabv,↓Zaav,↓Zaba,↓Zabb,↓Zabc,↓Zabn,↓Zabx,↓Zabu,↓Zaaz,↓Zaby,↓Zabp,↓Zabo,↓Zabq,↓Zabw,↓Zabj,↓Zabi,↓Zabl,↓Zabk,↓Zaax,↓Zabh,↓Zabz,↓Zabm,↓Zabd,↓Zaaw,↓Zabg,↓Zabe,↓Zabr,↓Zabs,↓Zabf,↓Zafn,↓bxPut,↓Zadb,↓Zacz,↓Zadc,↓Zada,↓Zaaq,↓Zaar,↓Zaap,↓Zaao,↓Zacp,↓Zacn,↓Zacq,↓Zaco,↓Zacx,↓Zacy,↓Zafo,↓Zafp,↓Zaca,↓Zafs,↓Zacj,↓Zacg,↓Zaci,↓Zach,↓dstAt,↓Zacl,Zacd,Zacf,Zace,Zaan,eql_str,neq_str,Zaaa,Zaac,Zaab,Zaai,Zaah,Zaaj,Zafm,Zafl,mm_max,mm_min,Zaal,Zaam,Zaak,Zacm,Zafr,una_nt,una_nf,una_neg,Zaag,Zaaf,Zadm,Zadn,Zaff,Zafe,Zafc,Zafb,Zaez,Zafi,Zafg,Zacs,Zact,List.map,List.nil_append,List.cons_append,List.append_nil,↓reduceIte,Nat.reduceEqDiff,Nat.reduceLT,dec_T,dec_F,Zack,true_and,and_true,true_implies,implies_true,false_and,and_false,true_or,or_true,false_or,or_false,and_self,or_self,Zacv,Zadd,Zacr,Zacw,Zaae,Nat.add_zero,Nat.mul_one,one1,Option.bind_some,ne_eq,Int.natCast_nonneg,Int.toNat_natCast,not_true_eq_false,not_false_eq_true,Option.map_some,Option.map_none, *,argF,List.getD_cons_zero,List.getD_cons_succ,lenI] | (with_reducible first | refine Zadr (by assumption) (by decide +kernel) ?_ | refine Zadq (by decide +kernel) ?_ | refine Zaew (by decide +kernel) ?_ | refine Zadw ?_))
      all_goals first
        | exact ⟨bool_f fun hp => absurd hp.1 ‹_›,Keep.refl _⟩
        | exact ⟨bool_f fun hp => absurd hp.2.1 ‹_›,Keep.refl _⟩
        | exact ⟨bool_f fun hp => hn2 hp.2.1.2,Keep.refl _⟩
        | exact bool_f fun hp => hw hp.2.2.1
        | exact bool_f fun hp => absurd hw' ‹_›
        | exact bool_d ⟨fun hh => hh.2.2.2,fun hh => ⟨Decidable.not_not.1 ‹¬¬(0 ≤ e ∧ e ≤ 100000)›,Decidable.not_not.1 ‹¬¬(1 ≤ (w.length:Int) ∧ (w.length:Int) ≤ 7)›,hw,hh⟩⟩
        | exact bool_d ⟨fun hh => ⟨Decidable.not_not.1 ‹¬¬(0 ≤ e ∧ e ≤ 100000)›,Decidable.not_not.1 ‹¬¬(1 ≤ (w.length:Int) ∧ (w.length:Int) ≤ 7)›,hw,hh⟩,fun hh => hh.2.2.2⟩
    · have hn2:¬ (w.length:Int) ≤ 7:=by omega
      repeat' (first | (with_reducible refine Zafd (fun h => ?_) (fun h => ?_)) | (with_reducible refine Zafa (fun h => ?_) (fun h => ?_)) | (with_reducible refine Zafh (fun h => ?_) (fun h => ?_)) | simp only [↓Zadl,↓Zadf,↓Zadi,↓Zadk,↓Zaas,↓Zaat,↓Zade,↓Zadg,↓Zadh,↓Zadj,↓Zafk,↓Zafj,↓Zaey,↓Zaau,↓Zaeo,↓Zadp,↓Zaer,↓Zado,↓Zadt,↓Zadu,↓Zadv,↓Zaef,↓Zaeg,↓Zaeq,↓Zads,↓Zaev,↓Zadx,↓Zaej,↓Zaei,↓Zaek,↓Zael,↓Zaet,↓Zaec,↓Zaeb,↓Zaee,↓Zaed,↓Zaeu,↓Zaea,↓Zaeh,↓Zaen,↓Zaes,↓Zaep,↓Zady,↓Zaem,↓Zadz,↓Zaex,↓Zafq,↓Zacb,↓Zabt,↓Zaay,↓Zabv,↓Zaav,↓Zaba,↓Zabb,↓Zabc,↓Zabn,↓Zabx,↓Zabu,↓Zaaz,↓Zaby,↓Zabp,↓Zabo,↓Zabq,↓Zabw,↓Zabj,↓Zabi,↓Zabl,↓Zabk,↓Zaax,↓Zabh,↓Zabz,↓Zabm,↓Zabd,↓Zaaw,↓Zabg,↓Zabe,↓Zabr,↓Zabs,↓Zabf,↓Zafn,↓bxPut,↓Zadb,↓Zacz,↓Zadc,↓Zada,↓Zaaq,↓Zaar,↓Zaap,↓Zaao,↓Zacp,↓Zacn,↓Zacq,↓Zaco,↓Zacx,↓Zacy,↓Zafo,↓Zafp,↓Zaca,↓Zafs,↓Zacj,↓Zacg,↓Zaci,↓Zach,↓dstAt,↓Zacl,Zacd,Zacf,Zace,Zaan,eql_str,neq_str,Zaaa,Zaac,Zaab,Zaai,Zaah,Zaaj,Zafm,Zafl,mm_max,mm_min,Zaal,Zaam,Zaak,Zacm,Zafr,una_nt,una_nf,una_neg,Zaag,Zaaf,Zadm,Zadn,Zaff,Zafe,Zafc,Zafb,Zaez,Zafi,Zafg,Zacs,Zact,List.map,List.nil_append,List.cons_append,List.append_nil,↓reduceIte,Nat.reduceEqDiff,Nat.reduceLT,dec_T,dec_F,Zack,true_and,and_true,true_implies,implies_true,false_and,and_false,true_or,or_true,false_or,or_false,and_self,or_self,Zacv,Zadd,Zacr,Zacw,Zaae,Nat.add_zero,Nat.mul_one,one1,Option.bind_some,ne_eq,Int.natCast_nonneg,Int.toNat_natCast,not_true_eq_false,not_false_eq_true,Option.map_some,Option.map_none, *,argF,List.getD_cons_zero,List.getD_cons_succ,lenI] | (with_reducible first | refine Zadr (by assumption) (by decide +kernel) ?_ | refine Zadq (by decide +kernel) ?_ | refine Zaew (by decide +kernel) ?_ | refine Zadw ?_))
      all_goals first
        | exact ⟨bool_f fun hp => absurd hp.1 ‹_›,Keep.refl _⟩
        | exact ⟨bool_f fun hp => absurd hp.2.1 ‹_›,Keep.refl _⟩
        | exact ⟨bool_f fun hp => hn2 hp.2.1.2,Keep.refl _⟩
        | exact bool_f fun hp => hw hp.2.2.1
        | exact bool_f fun hp => absurd hw' ‹_›
        | exact bool_d ⟨fun hh => hh.2.2.2,fun hh => ⟨Decidable.not_not.1 ‹¬¬(0 ≤ e ∧ e ≤ 100000)›,Decidable.not_not.1 ‹¬¬(1 ≤ (w.length:Int) ∧ (w.length:Int) ≤ 7)›,hw,hh⟩⟩
        | exact bool_d ⟨fun hh => ⟨Decidable.not_not.1 ‹¬¬(0 ≤ e ∧ e ≤ 100000)›,Decidable.not_not.1 ‹¬¬(1 ≤ (w.length:Int) ∧ (w.length:Int) ≤ 7)›,hw,hh⟩,fun hh => hh.2.2.2⟩
  · have hw':¬ ∀ x ∈ w,¬¬ (0 ≤ x ∧ x ≤ 100000):=fun h => hw fun x hx => Decidable.not_not.1 (h x hx)
    repeat' (first | (with_reducible refine Zafd (fun h => ?_) (fun h => ?_)) | (with_reducible refine Zafa (fun h => ?_) (fun h => ?_)) | (with_reducible refine Zafh (fun h => ?_) (fun h => ?_)) | simp only [↓Zadl,↓Zadf,↓Zadi,↓Zadk,↓Zaas,↓Zaat,↓Zade,↓Zadg,↓Zadh,↓Zadj,↓Zafk,↓Zafj,↓Zaey,↓Zaau,↓Zaeo,↓Zadp,↓Zaer,↓Zado,↓Zadt,↓Zadu,↓Zadv,↓Zaef,↓Zaeg,↓Zaeq,↓Zads,↓Zaev,↓Zadx,↓Zaej,↓Zaei,↓Zaek,↓Zael,↓Zaet,↓Zaec,↓Zaeb,↓Zaee,↓Zaed,↓Zaeu,↓Zaea,↓Zaeh,↓Zaen,↓Zaes,↓Zaep,↓Zady,↓Zaem,↓Zadz,↓Zaex,↓Zafq,↓Zacb,↓Zabt,↓Zaay,↓Zabv,↓Zaav,↓Zaba,↓Zabb,↓Zabc,↓Zabn,↓Zabx,↓Zabu,↓Zaaz,↓Zaby,↓Zabp,↓Zabo,↓Zabq,↓Zabw,↓Zabj,↓Zabi,↓Zabl,↓Zabk,↓Zaax,↓Zabh,↓Zabz,↓Zabm,↓Zabd,↓Zaaw,↓Zabg,↓Zabe,↓Zabr,↓Zabs,↓Zabf,↓Zafn,↓bxPut,↓Zadb,↓Zacz,↓Zadc,↓Zada,↓Zaaq,↓Zaar,↓Zaap,↓Zaao,↓Zacp,↓Zacn,↓Zacq,↓Zaco,↓Zacx,↓Zacy,↓Zafo,↓Zafp,↓Zaca,↓Zafs,↓Zacj,↓Zacg,↓Zaci,↓Zach,↓dstAt,↓Zacl,Zacd,Zacf,Zace,Zaan,eql_str,neq_str,Zaaa,Zaac,Zaab,Zaai,Zaah,Zaaj,Zafm,Zafl,mm_max,mm_min,Zaal,Zaam,Zaak,Zacm,Zafr,una_nt,una_nf,una_neg,Zaag,Zaaf,Zadm,Zadn,Zaff,Zafe,Zafc,Zafb,Zaez,Zafi,Zafg,Zacs,Zact,List.map,List.nil_append,List.cons_append,List.append_nil,↓reduceIte,Nat.reduceEqDiff,Nat.reduceLT,dec_T,dec_F,Zack,true_and,and_true,true_implies,implies_true,false_and,and_false,true_or,or_true,false_or,or_false,and_self,or_self,Zacv,Zadd,Zacr,Zacw,Zaae,Nat.add_zero,Nat.mul_one,one1,Option.bind_some,ne_eq,Int.natCast_nonneg,Int.toNat_natCast,not_true_eq_false,not_false_eq_true,Option.map_some,Option.map_none, *,argF,List.getD_cons_zero,List.getD_cons_succ,lenI] | (with_reducible first | refine Zadr (by assumption) (by decide +kernel) ?_ | refine Zadq (by decide +kernel) ?_ | refine Zaew (by decide +kernel) ?_ | refine Zadw ?_))
    all_goals first
      | exact ⟨bool_f fun hp => absurd hp.1 ‹_›,Keep.refl _⟩
      | exact ⟨bool_f fun hp => absurd hp.2.1 ‹_›,Keep.refl _⟩
      | exact ⟨bool_f fun hp => hn2 hp.2.1.2,Keep.refl _⟩
      | exact bool_f fun hp => hw hp.2.2.1
      | exact bool_f fun hp => absurd hw' ‹_›
      | exact bool_d ⟨fun hh => hh.2.2.2,fun hh => ⟨Decidable.not_not.1 ‹¬¬(0 ≤ e ∧ e ≤ 100000)›,Decidable.not_not.1 ‹¬¬(1 ≤ (w.length:Int) ∧ (w.length:Int) ≤ 7)›,hw,hh⟩⟩
      | exact bool_d ⟨fun hh => ⟨Decidable.not_not.1 ‹¬¬(0 ≤ e ∧ e ≤ 100000)›,Decidable.not_not.1 ‹¬¬(1 ≤ (w.length:Int) ∧ (w.length:Int) ≤ 7)›,hw,hh⟩,fun hh => hh.2.2.2⟩
end Go.Proofs.Ytmpbapffjapghaa.Q
namespace Go.Proofs.Ytmpbapffjapghaa.Q
open Go Go.AM
set_option maxRecDepth 10000

def gcdAll (d:Int) (w:List Int):Int:=w.foldl (fun a b => ((Nat.gcd a.toNat b.toNat:Nat):Int)) d
theorem gcdAll_take (d:Int) (w:List Int) {k:Nat} (h:k < w.length):gcdAll d (w.take (k + 1)) = ((Nat.gcd (gcdAll d (w.take k)).toNat (w.getD k 0).toNat:Nat):Int):=by
  unfold gcdAll;rw [List.take_add_one,List.getElem?_eq_getElem h,List.getD_eq_getElem?_getD,List.getElem?_eq_getElem h];rw [List.foldl_append];rfl
theorem gcdAll_pos (d:Int) (w:List Int) (h:0 < d):0 < gcdAll d w ∧ gcdAll d w ≤ d:=by
  unfold gcdAll
  induction w generalizing d with
  | nil => exact ⟨h,Int.le_refl _⟩
  | cons a l ih =>
    have h1:0 < Nat.gcd d.toNat a.toNat:=Nat.gcd_pos_of_pos_left _ (by omega)
    have h2:Nat.gcd d.toNat a.toNat ≤ d.toNat:=Nat.gcd_le_left _ (by omega)
    have:=ih ((Nat.gcd d.toNat a.toNat:Nat):Int) (by omega)
    exact ⟨this.1,by simp only [List.foldl_cons]; omega⟩

theorem fldP0 (r o:Nat):aFieldAt Try.prog 24 0 (.pointer (some ⟨r,o,none⟩)) = some (.pointer (some ⟨r,o,none⟩)):=by kernel_rfl
theorem fldP1 (r o:Nat):aFieldAt Try.prog 24 1 (.pointer (some ⟨r,o,none⟩)) = some (.pointer (some ⟨r,o + 1,none⟩)):=by kernel_rfl
theorem ldIs (H:Heap) (r o:Nat):aLoad Try.prog H 22 (.pointer (some ⟨r,o,none⟩)) = (H.read r o 1).bind one1:=by kernel_rfl
theorem ldPa (H:Heap) (r o:Nat):aLoad Try.prog H 24 (.pointer (some ⟨r,o,none⟩)) = (H.read r o 2).map fun l => .agg ⟨l⟩:=by kernel_rfl
theorem cells_agg (l:List Value):(Value.agg ⟨l⟩).cells.toList = l:=rfl
theorem boxP (H:Heap) (v u:Value):∃ H1,H.newExact [v,u] 24 = H1 ∧ Keep H H1 ∧ H.size < H1.size ∧ H1.read H.size 0 2 = some [v,u] ∧ H1.read H.size 0 1 = some [v] ∧ H1.read H.size (0 + 1) 1 = some [u]:=by
  obtain ⟨H1,e1,hK1,hz1,_,hr1⟩:=box1 H [v,u] 24;exact ⟨H1,e1,hK1,hz1,hr1 0 2 (by show 0 + 2 ≤ 2; omega),hr1 0 1 (by show 0 + 1 ≤ 2; omega),hr1 (0 + 1) 1 (by show 0 + 1 + 1 ≤ 2; omega)⟩

variable {S:AM.Sys} (hS:Only S 5)
include hS

theorem cdiv_runs (v:Value) (w:List Int) (d:Int) (r o:Nat) (H:Heap) (hl:SlI .i64 H v w r o) (hp:∀ x ∈ w,0 ≤ x) (hd:0 < d ∧ d ≤ 9223372036854775807):∃ H',Keep H H' ∧ Runs Try.prog S (.fn 29) [.agg ⟨[v,.int .i64 d]⟩] H (.int .i64 (gcdAll d w)) H':=by
  suffices h:WCall Try.prog S (.fn 29) [.agg ⟨[v,.int .i64 d]⟩] H (fun v H' => v = .int .i64 (gcdAll d w) ∧ Keep H H') by
    obtain ⟨_,H',hr,rfl,hk⟩:=h; exact ⟨H',hk,hr⟩
  obtain ⟨a,cap,rfl⟩:=hl.v0;refine call_of Try.func29 rfl (Nat.le_of_ble_eq_true rfl) (hS.no rfl _ _) ?_
  rw [Try.ntmps29,Try.results29];obtain ⟨H1,e1,hK1,hz1,rd2,rd0,rd1⟩:=boxP H (.slice a w.length cap) (.int .i64 d)
  repeat' (first | (with_reducible refine Zafd (fun h => ?_) (fun h => ?_)) | (with_reducible refine Zafa (fun h => ?_) (fun h => ?_)) | (with_reducible refine Zafh (fun h => ?_) (fun h => ?_)) | simp only [↓Zadl,↓Zadf,↓Zadi,↓Zadk,↓Zaas,↓Zaat,↓Zade,↓Zadg,↓Zadh,↓Zadj,↓Zafk,↓Zafj,↓Zaey,↓Zaau,↓Zaeo,↓Zadp,↓Zaer,↓Zado,↓Zadt,↓Zadu,↓Zadv,↓Zaef,↓Zaeg,↓Zaeq,↓Zads,↓Zaev,↓Zadx,↓Zaej,↓Zaei,↓Zaek,↓Zael,↓Zaet,↓Zaec,↓Zaeb,↓Zaee,↓Zaed,↓Zaeu,↓Zaea,↓Zaeh,↓Zaen,↓Zaes,↓Zaep,↓Zady,↓Zaem,↓Zadz,↓Zaex,↓Zafq,↓Zacb,↓Zabt,↓Zaay,↓Zabv,↓Zaav,↓Zaba,↓Zabb,↓Zabc,↓Zabn,↓Zabx,↓Zabu,↓Zaaz,↓Zaby,↓Zabp,↓Zabo,↓Zabq,↓Zabw,↓Zabj,↓Zabi,↓Zabl,↓Zabk,↓Zaax,↓Zabh,↓Zabz,↓Zabm,↓Zabd,↓Zaaw,↓Zabg,↓Zabe,↓Zabr,↓Zabs,↓Zabf,↓Zafn,↓bxPut,↓Zadb,↓Zacz,↓Zadc,↓Zada,↓Zaaq,↓Zaar,↓Zaap,↓Zaao,↓Zacp,↓Zacn,↓Zacq,↓Zaco,↓Zacx,↓Zacy,↓Zafo,↓Zafp,↓Zaca,↓Zafs,↓Zacj,↓Zacg,↓Zaci,↓Zach,↓dstAt,↓Zacl,Zacd,Zacf,Zace,Zaan,eql_str,neq_str,Zaaa,Zaac,Zaab,Zaai,Zaah,Zaaj,Zafm,Zafl,mm_max,mm_min,Zaal,Zaam,Zaak,Zacm,Zafr,una_nt,una_nf,una_neg,Zaag,Zaaf,Zadm,Zadn,Zaff,Zafe,Zafc,Zafb,Zaez,Zafi,Zafg,Zacs,Zact,List.map,List.nil_append,List.cons_append,List.append_nil,↓reduceIte,Nat.reduceEqDiff,Nat.reduceLT,dec_T,dec_F,Zack,true_and,and_true,true_implies,implies_true,false_and,and_false,true_or,or_true,false_or,or_false,and_self,or_self,Zacv,Zadd,Zacr,Zacw,Zaae,Nat.add_zero,Nat.mul_one,one1,Option.bind_some,ne_eq,Int.natCast_nonneg,Int.toNat_natCast,not_true_eq_false,not_false_eq_true,Option.map_some,Option.map_none, *,argF,List.getD_cons_zero,List.getD_cons_succ,lenI,cells_agg,fldP0,fldP1,ldI,ldIs] | (with_reducible first | refine Zadr (by assumption) (by decide +kernel) ?_ | refine Zadq (by decide +kernel) ?_ | refine Zaew (by decide +kernel) ?_ | refine Zadw ?_))
  refine sxL_of (fun m ρ H2 => ∃ k:Nat,m = w.length - k ∧ k ≤ w.length ∧ Keep H H2 ∧ ρ 3 = .int .i64 (gcdAll d (w.take k)) ∧ ρ 9 = .slice a w.length cap ∧ ρ 10 = .int .i64 w.length ∧ ρ 11 = .int .i64 k)
    ⟨0,rfl,Nat.zero_le _,hK1,rfl,rfl,rfl,rfl⟩ ?_
  clear e1 rd0 rd1;rintro m ρ H2 ⟨k,rfl,hk,hK,e3,e9,e10,e11⟩;have hK0:=hK
  by_cases hlt:k < w.length
  · have hl2:=hl.keep hK;have hix:=SlI_ix hl2 hlt;have hrd:=(hl2.rdI hlt).1;have hw:=wrap_succ hlt hl.ml;have hlt':(k:Int) < (w.length:Int):=by omega
    have g1:=gcdAll_take d w hlt;have g2:=gcdAll_pos d (w.take k) hd.1;have g3:=hp _ (getD_mem (d:=0) hlt);have g4:w.getD k 0 ≤ 9223372036854775807:=by have:=hl.rng k; have h1:IntKind.i64.max = 9223372036854775807:=rfl; omega
    generalize gcdAll d (w.take k) = D at *;clear hl hl2
    repeat' (first | (with_reducible refine Zafd (fun h => ?_) (fun h => ?_)) | (with_reducible refine Zafa (fun h => ?_) (fun h => ?_)) | (with_reducible refine Zafh (fun h => ?_) (fun h => ?_)) | simp only [↓Zadl,↓Zadf,↓Zadi,↓Zadk,↓Zaas,↓Zaat,↓Zade,↓Zadg,↓Zadh,↓Zadj,↓Zafk,↓Zafj,↓Zaey,↓Zaau,↓Zaeo,↓Zadp,↓Zaer,↓Zado,↓Zadt,↓Zadu,↓Zadv,↓Zaef,↓Zaeg,↓Zaeq,↓Zads,↓Zaev,↓Zadx,↓Zaej,↓Zaei,↓Zaek,↓Zael,↓Zaet,↓Zaec,↓Zaeb,↓Zaee,↓Zaed,↓Zaeu,↓Zaea,↓Zaeh,↓Zaen,↓Zaes,↓Zaep,↓Zady,↓Zaem,↓Zadz,↓Zaex,↓Zafq,↓Zacb,↓Zabt,↓Zaay,↓Zabv,↓Zaav,↓Zaba,↓Zabb,↓Zabc,↓Zabn,↓Zabx,↓Zabu,↓Zaaz,↓Zaby,↓Zabp,↓Zabo,↓Zabq,↓Zabw,↓Zabj,↓Zabi,↓Zabl,↓Zabk,↓Zaax,↓Zabh,↓Zabz,↓Zabm,↓Zabd,↓Zaaw,↓Zabg,↓Zabe,↓Zabr,↓Zabs,↓Zabf,↓Zafn,↓bxPut,↓Zadb,↓Zacz,↓Zadc,↓Zada,↓Zaaq,↓Zaar,↓Zaap,↓Zaao,↓Zacp,↓Zacn,↓Zacq,↓Zaco,↓Zacx,↓Zacy,↓Zafo,↓Zafp,↓Zaca,↓Zafs,↓Zacj,↓Zacg,↓Zaci,↓Zach,↓dstAt,↓Zacl,Zacd,Zacf,Zace,Zaan,eql_str,neq_str,Zaaa,Zaac,Zaab,Zaai,Zaah,Zaaj,Zafm,Zafl,mm_max,mm_min,Zaal,Zaam,Zaak,Zacm,Zafr,una_nt,una_nf,una_neg,Zaag,Zaaf,Zadm,Zadn,Zaff,Zafe,Zafc,Zafb,Zaez,Zafi,Zafg,Zacs,Zact,List.map,List.nil_append,List.cons_append,List.append_nil,↓reduceIte,Nat.reduceEqDiff,Nat.reduceLT,dec_T,dec_F,Zack,true_and,and_true,true_implies,implies_true,false_and,and_false,true_or,or_true,false_or,or_false,and_self,or_self,Zacv,Zadd,Zacr,Zacw,Zaae,Nat.add_zero,Nat.mul_one,one1,Option.bind_some,ne_eq,Int.natCast_nonneg,Int.toNat_natCast,not_true_eq_false,not_false_eq_true,Option.map_some,Option.map_none, *,lenI,ldI] | (with_reducible first | refine Zadr (by assumption) (by decide +kernel) ?_ | refine Zadq (by decide +kernel) ?_ | refine Zaew (by decide +kernel) ?_ | refine Zadw ?_))
    obtain ⟨G,hGd⟩:∃ G:Nat,G = Nat.gcd D.toNat (w.getD k 0).toNat:=⟨_,rfl⟩;rw [← hGd] at g1;refine sxL_of (fun m ρ H3 => ∃ x y:Int,m = y.toNat ∧ 0 ≤ x ∧ 0 ≤ y ∧ x ≤ 9223372036854775807 ∧ y ≤ 9223372036854775807 ∧ Nat.gcd x.toNat y.toNat = G ∧ Keep H H3 ∧ ρ 3 = .int .i64 x ∧ ρ 5 = .int .i64 y ∧ ρ 9 = .slice a w.length cap ∧ ρ 10 = .int .i64 w.length ∧ ρ 11 = .int .i64 k)
      ⟨D,w.getD k 0,rfl,by omega,g3,by omega,g4,hGd.symm,hK,by first | rfl | assumption,rfl,by first | rfl | assumption,by first | rfl | assumption,by first | rfl | assumption⟩ ?_
    clear e3 e9 e10 e11 hrd hix g3 g4 hK;rintro m ρ H3 ⟨x,y,rfl,hx,hy,hx2,hy2,hG,hK,e3,e5,e9,e10,e11⟩;clear hGd g2
    by_cases hb0:y = 0
    · subst hb0;have hG2:gcdAll d (w.take (k + 1)) = x:=by rw [g1,← hG,show (0:Int).toNat = 0 from rfl,Nat.gcd_zero_right]; omega
      clear g1 hG
      repeat' (first | (with_reducible refine Zafd (fun h => ?_) (fun h => ?_)) | (with_reducible refine Zafa (fun h => ?_) (fun h => ?_)) | (with_reducible refine Zafh (fun h => ?_) (fun h => ?_)) | simp only [↓Zadl,↓Zadf,↓Zadi,↓Zadk,↓Zaas,↓Zaat,↓Zade,↓Zadg,↓Zadh,↓Zadj,↓Zafk,↓Zafj,↓Zaey,↓Zaau,↓Zaeo,↓Zadp,↓Zaer,↓Zado,↓Zadt,↓Zadu,↓Zadv,↓Zaef,↓Zaeg,↓Zaeq,↓Zads,↓Zaev,↓Zadx,↓Zaej,↓Zaei,↓Zaek,↓Zael,↓Zaet,↓Zaec,↓Zaeb,↓Zaee,↓Zaed,↓Zaeu,↓Zaea,↓Zaeh,↓Zaen,↓Zaes,↓Zaep,↓Zady,↓Zaem,↓Zadz,↓Zaex,↓Zafq,↓Zacb,↓Zabt,↓Zaay,↓Zabv,↓Zaav,↓Zaba,↓Zabb,↓Zabc,↓Zabn,↓Zabx,↓Zabu,↓Zaaz,↓Zaby,↓Zabp,↓Zabo,↓Zabq,↓Zabw,↓Zabj,↓Zabi,↓Zabl,↓Zabk,↓Zaax,↓Zabh,↓Zabz,↓Zabm,↓Zabd,↓Zaaw,↓Zabg,↓Zabe,↓Zabr,↓Zabs,↓Zabf,↓Zafn,↓bxPut,↓Zadb,↓Zacz,↓Zadc,↓Zada,↓Zaaq,↓Zaar,↓Zaap,↓Zaao,↓Zacp,↓Zacn,↓Zacq,↓Zaco,↓Zacx,↓Zacy,↓Zafo,↓Zafp,↓Zaca,↓Zafs,↓Zacj,↓Zacg,↓Zaci,↓Zach,↓dstAt,↓Zacl,Zacd,Zacf,Zace,Zaan,eql_str,neq_str,Zaaa,Zaac,Zaab,Zaai,Zaah,Zaaj,Zafm,Zafl,mm_max,mm_min,Zaal,Zaam,Zaak,Zacm,Zafr,una_nt,una_nf,una_neg,Zaag,Zaaf,Zadm,Zadn,Zaff,Zafe,Zafc,Zafb,Zaez,Zafi,Zafg,Zacs,Zact,List.map,List.nil_append,List.cons_append,List.append_nil,↓reduceIte,Nat.reduceEqDiff,Nat.reduceLT,dec_T,dec_F,Zack,true_and,and_true,true_implies,implies_true,false_and,and_false,true_or,or_true,false_or,or_false,and_self,or_self,Zacv,Zadd,Zacr,Zacw,Zaae,Nat.add_zero,Nat.mul_one,one1,Option.bind_some,ne_eq,Int.natCast_nonneg,Int.toNat_natCast,not_true_eq_false,not_false_eq_true,Option.map_some,Option.map_none, *,lenI] | (with_reducible first | refine Zadr (by assumption) (by decide +kernel) ?_ | refine Zadq (by decide +kernel) ?_ | refine Zaew (by decide +kernel) ?_ | refine Zadw ?_))
      exact ⟨_,by omega,k + 1,rfl,by omega,congrArg (Value.int .i64) hG2.symm,rfl⟩
    · have hm:x.tmod y = x % y:=Int.tmod_eq_emod_of_nonneg hx;have h1:=Int.emod_nonneg x hb0;have h2:=Int.emod_lt_of_pos x (show 0 < y by omega)
      have f1:IntKind.i64.wrap (x % y) = x % y:=IntWalk.i64_in _ (by omega)
      have hg2:Nat.gcd y.toNat (x % y).toNat = G:=by
        rw [← hG,Int.toNat_emod hx hy,Nat.gcd_comm y.toNat (x.toNat % y.toNat),← Nat.gcd_rec,Nat.gcd_comm]
      repeat' (first | (with_reducible refine Zafd (fun h => ?_) (fun h => ?_)) | (with_reducible refine Zafa (fun h => ?_) (fun h => ?_)) | (with_reducible refine Zafh (fun h => ?_) (fun h => ?_)) | simp only [↓Zadl,↓Zadf,↓Zadi,↓Zadk,↓Zaas,↓Zaat,↓Zade,↓Zadg,↓Zadh,↓Zadj,↓Zafk,↓Zafj,↓Zaey,↓Zaau,↓Zaeo,↓Zadp,↓Zaer,↓Zado,↓Zadt,↓Zadu,↓Zadv,↓Zaef,↓Zaeg,↓Zaeq,↓Zads,↓Zaev,↓Zadx,↓Zaej,↓Zaei,↓Zaek,↓Zael,↓Zaet,↓Zaec,↓Zaeb,↓Zaee,↓Zaed,↓Zaeu,↓Zaea,↓Zaeh,↓Zaen,↓Zaes,↓Zaep,↓Zady,↓Zaem,↓Zadz,↓Zaex,↓Zafq,↓Zacb,↓Zabt,↓Zaay,↓Zabv,↓Zaav,↓Zaba,↓Zabb,↓Zabc,↓Zabn,↓Zabx,↓Zabu,↓Zaaz,↓Zaby,↓Zabp,↓Zabo,↓Zabq,↓Zabw,↓Zabj,↓Zabi,↓Zabl,↓Zabk,↓Zaax,↓Zabh,↓Zabz,↓Zabm,↓Zabd,↓Zaaw,↓Zabg,↓Zabe,↓Zabr,↓Zabs,↓Zabf,↓Zafn,↓bxPut,↓Zadb,↓Zacz,↓Zadc,↓Zada,↓Zaaq,↓Zaar,↓Zaap,↓Zaao,↓Zacp,↓Zacn,↓Zacq,↓Zaco,↓Zacx,↓Zacy,↓Zafo,↓Zafp,↓Zaca,↓Zafs,↓Zacj,↓Zacg,↓Zaci,↓Zach,↓dstAt,↓Zacl,Zacd,Zacf,Zace,Zaan,eql_str,neq_str,Zaaa,Zaac,Zaab,Zaai,Zaah,Zaaj,Zafm,Zafl,mm_max,mm_min,Zaal,Zaam,Zaak,Zacm,Zafr,una_nt,una_nf,una_neg,Zaag,Zaaf,Zadm,Zadn,Zaff,Zafe,Zafc,Zafb,Zaez,Zafi,Zafg,Zacs,Zact,List.map,List.nil_append,List.cons_append,List.append_nil,↓reduceIte,Nat.reduceEqDiff,Nat.reduceLT,dec_T,dec_F,Zack,true_and,and_true,true_implies,implies_true,false_and,and_false,true_or,or_true,false_or,or_false,and_self,or_self,Zacv,Zadd,Zacr,Zacw,Zaae,Nat.add_zero,Nat.mul_one,one1,Option.bind_some,ne_eq,Int.natCast_nonneg,Int.toNat_natCast,not_true_eq_false,not_false_eq_true,Option.map_some,Option.map_none, *,lenI] | (with_reducible first | refine Zadr (by assumption) (by decide +kernel) ?_ | refine Zadq (by decide +kernel) ?_ | refine Zaew (by decide +kernel) ?_ | refine Zadw ?_))
      refine ⟨_,?_,y,x % y,rfl,hy,h1,hy2,by omega,hg2,?_,rfl,rfl⟩
      · omega
      · have z1:min H.low H.size ≤ H3.size:=Nat.le_trans (Nat.min_le_right _ _) hK.size;exact { size:=hK.size,low:=fun _ => Nat.min_le_right _ _,lo:=by repeat' (first | exact hK.lo | exact z1 | refine Nat.le_min.2 ⟨?_,?_⟩),row:=hK.row,grp:=hK.grp,mem:=hK.mem }
  · have hlt':¬ (k:Int) < (w.length:Int):=by omega
    obtain rfl:k = w.length:=by omega
    have g:gcdAll d (w.take w.length) = gcdAll d w:=by rw [List.take_length]
    clear hl
    repeat' (first | (with_reducible refine Zafd (fun h => ?_) (fun h => ?_)) | (with_reducible refine Zafa (fun h => ?_) (fun h => ?_)) | (with_reducible refine Zafh (fun h => ?_) (fun h => ?_)) | simp only [↓Zadl,↓Zadf,↓Zadi,↓Zadk,↓Zaas,↓Zaat,↓Zade,↓Zadg,↓Zadh,↓Zadj,↓Zafk,↓Zafj,↓Zaey,↓Zaau,↓Zaeo,↓Zadp,↓Zaer,↓Zado,↓Zadt,↓Zadu,↓Zadv,↓Zaef,↓Zaeg,↓Zaeq,↓Zads,↓Zaev,↓Zadx,↓Zaej,↓Zaei,↓Zaek,↓Zael,↓Zaet,↓Zaec,↓Zaeb,↓Zaee,↓Zaed,↓Zaeu,↓Zaea,↓Zaeh,↓Zaen,↓Zaes,↓Zaep,↓Zady,↓Zaem,↓Zadz,↓Zaex,↓Zafq,↓Zacb,↓Zabt,↓Zaay,↓Zabv,↓Zaav,↓Zaba,↓Zabb,↓Zabc,↓Zabn,↓Zabx,↓Zabu,↓Zaaz,↓Zaby,↓Zabp,↓Zabo,↓Zabq,↓Zabw,↓Zabj,↓Zabi,↓Zabl,↓Zabk,↓Zaax,↓Zabh,↓Zabz,↓Zabm,↓Zabd,↓Zaaw,↓Zabg,↓Zabe,↓Zabr,↓Zabs,↓Zabf,↓Zafn,↓bxPut,↓Zadb,↓Zacz,↓Zadc,↓Zada,↓Zaaq,↓Zaar,↓Zaap,↓Zaao,↓Zacp,↓Zacn,↓Zacq,↓Zaco,↓Zacx,↓Zacy,↓Zafo,↓Zafp,↓Zaca,↓Zafs,↓Zacj,↓Zacg,↓Zaci,↓Zach,↓dstAt,↓Zacl,Zacd,Zacf,Zace,Zaan,eql_str,neq_str,Zaaa,Zaac,Zaab,Zaai,Zaah,Zaaj,Zafm,Zafl,mm_max,mm_min,Zaal,Zaam,Zaak,Zacm,Zafr,una_nt,una_nf,una_neg,Zaag,Zaaf,Zadm,Zadn,Zaff,Zafe,Zafc,Zafb,Zaez,Zafi,Zafg,Zacs,Zact,List.map,List.nil_append,List.cons_append,List.append_nil,↓reduceIte,Nat.reduceEqDiff,Nat.reduceLT,dec_T,dec_F,Zack,true_and,and_true,true_implies,implies_true,false_and,and_false,true_or,or_true,false_or,or_false,and_self,or_self,Zacv,Zadd,Zacr,Zacw,Zaae,Nat.add_zero,Nat.mul_one,one1,Option.bind_some,ne_eq,Int.natCast_nonneg,Int.toNat_natCast,not_true_eq_false,not_false_eq_true,Option.map_some,Option.map_none, *,lenI,ldI] | (with_reducible first | refine Zadr (by assumption) (by decide +kernel) ?_ | refine Zadq (by decide +kernel) ?_ | refine Zaew (by decide +kernel) ?_ | refine Zadw ?_))

def Shr (e:Int) (c:List Int) (w:List Int) (d:Int):Prop:=w.length = c.length ∧ (1 ≤ d ∧ d ≤ 1000000) ∧ (∀ i,i < w.length → 0 ≤ w.getD i 0 ∧ w.getD i 0 ≤ c.getD i 0 * d) ∧ w.sum = e * d ∧ gcdAll d w = 1
instance (e:Int) (c:List Int) (w:List Int) (d:Int):Decidable (Shr e c w d):=by unfold Shr; infer_instance

theorem areShares_runs (e:Int) (v v2:Value) (c w:List Int) (d:Int) (r o r2 o2:Nat) (H:Heap) (hL:H.low ≤ H.size) (hc:SlI .i64 H v c r o) (hl:SlI .i64 H v2 w r2 o2) (hP:Prob e c) :
    ∃ H',Keep H H' ∧ Runs Try.prog S (.fn 17) [.int .i64 e,v,.agg ⟨[v2,.int .i64 d]⟩] H (.bool (decide (Shr e c w d))) H':=by
  suffices h:WCall Try.prog S (.fn 17) [.int .i64 e,v,.agg ⟨[v2,.int .i64 d]⟩] H (fun v H' => v = .bool (decide (Shr e c w d)) ∧ Keep H H') by
    obtain ⟨_,H',hr,rfl,hk⟩:=h; exact ⟨H',hk,hr⟩
  obtain ⟨a,cap,rfl⟩:=hc.v0;obtain ⟨a2,cap2,rfl⟩:=hl.v0;refine call_of Try.func17 rfl (Nat.le_of_ble_eq_true rfl) (hS.no rfl _ _) ?_
  rw [Try.ntmps17,Try.results17];obtain ⟨H1,e1,hK1,hz1,rd2,rd0,rd1⟩:=boxP H (.slice a2 w.length cap2) (.int .i64 d);have hb1:=fun n a b H => (isWithin_runs hS n a b H).bx
  have hL1:=hK1.low hL
  repeat' (first | (with_reducible refine Zafd (fun h => ?_) (fun h => ?_)) | (with_reducible refine Zafa (fun h => ?_) (fun h => ?_)) | (with_reducible refine Zafh (fun h => ?_) (fun h => ?_)) | simp only [↓Zadl,↓Zadf,↓Zadi,↓Zadk,↓Zaas,↓Zaat,↓Zade,↓Zadg,↓Zadh,↓Zadj,↓Zafk,↓Zafj,↓Zaey,↓Zaau,↓Zaeo,↓Zadp,↓Zaer,↓Zado,↓Zadt,↓Zadu,↓Zadv,↓Zaef,↓Zaeg,↓Zaeq,↓Zads,↓Zaev,↓Zadx,↓Zaej,↓Zaei,↓Zaek,↓Zael,↓Zaet,↓Zaec,↓Zaeb,↓Zaee,↓Zaed,↓Zaeu,↓Zaea,↓Zaeh,↓Zaen,↓Zaes,↓Zaep,↓Zady,↓Zaem,↓Zadz,↓Zaex,↓Zafq,↓Zacb,↓Zabt,↓Zaay,↓Zabv,↓Zaav,↓Zaba,↓Zabb,↓Zabc,↓Zabn,↓Zabx,↓Zabu,↓Zaaz,↓Zaby,↓Zabp,↓Zabo,↓Zabq,↓Zabw,↓Zabj,↓Zabi,↓Zabl,↓Zabk,↓Zaax,↓Zabh,↓Zabz,↓Zabm,↓Zabd,↓Zaaw,↓Zabg,↓Zabe,↓Zabr,↓Zabs,↓Zabf,↓Zafn,↓bxPut,↓Zadb,↓Zacz,↓Zadc,↓Zada,↓Zaaq,↓Zaar,↓Zaap,↓Zaao,↓Zacp,↓Zacn,↓Zacq,↓Zaco,↓Zacx,↓Zacy,↓Zafo,↓Zafp,↓Zaca,↓Zafs,↓Zacj,↓Zacg,↓Zaci,↓Zach,↓dstAt,↓Zacl,Zacd,Zacf,Zace,Zaan,eql_str,neq_str,Zaaa,Zaac,Zaab,Zaai,Zaah,Zaaj,Zafm,Zafl,mm_max,mm_min,Zaal,Zaam,Zaak,Zacm,Zafr,una_nt,una_nf,una_neg,Zaag,Zaaf,Zadm,Zadn,Zaff,Zafe,Zafc,Zafb,Zaez,Zafi,Zafg,Zacs,Zact,List.map,List.nil_append,List.cons_append,List.append_nil,↓reduceIte,Nat.reduceEqDiff,Nat.reduceLT,dec_T,dec_F,Zack,true_and,and_true,true_implies,implies_true,false_and,and_false,true_or,or_true,false_or,or_false,and_self,or_self,Zacv,Zadd,Zacr,Zacw,Zaae,Nat.add_zero,Nat.mul_one,one1,Option.bind_some,ne_eq,Int.natCast_nonneg,Int.toNat_natCast,not_true_eq_false,not_false_eq_true,Option.map_some,Option.map_none, *,argF,List.getD_cons_zero,List.getD_cons_succ,lenI,cells_agg,fldP0,fldP1,ldI,ldIs,hb1] | (with_reducible first | refine Zadr (by assumption) (by decide +kernel) ?_ | refine Zadq (by decide +kernel) ?_ | refine Zaew (by decide +kernel) ?_ | refine Zadw ?_))
  · exact bool_f fun hh => absurd hh.2.1 ‹_›
  · have hwc:w.length ≤ c.length ∧ c.length ≤ w.length:=by omega
    have hd:1 ≤ d ∧ d ≤ 1000000:=Decidable.not_not.1 ‹_›;refine sxL_of (fun m ρ H3 => ∃ k:Nat,m = w.length - k ∧ k ≤ w.length ∧ Keep H1 H3 ∧ (∀ i,i < k → 0 ≤ w.getD i 0 ∧ w.getD i 0 ≤ c.getD i 0 * d) ∧ ρ 0 = .int .i64 e ∧ ρ 1 = .slice a c.length cap ∧ ρ 5 = .pointer (some ⟨H.size,0,none⟩) ∧ ρ 22 = .slice a2 w.length cap2 ∧ ρ 23 = .int .i64 w.length ∧ ρ 24 = .int .i64 k)
      ⟨0,rfl,Nat.zero_le _,Keep.refl _,fun i hi => absurd hi (Nat.not_lt_zero i),rfl,rfl,rfl,rfl,rfl,rfl⟩ ?_
    clear h;clear h;rintro m ρ H3 ⟨k,rfl,hk,hK,hall,e0,e1',e5,e22,e23,e24⟩;have hL3:=hK.low hL1;have q2:=hK.read hz1 rd2;have q0:=hK.read hz1 rd0;have q1:=hK.read hz1 rd1;have hcm:∀ x ∈ c,0 ≤ x ∧ x ≤ 100000:=hP.2.2.1;have hn7:(c.length:Int) ≤ 7:=hP.2.1.2
    by_cases hlt:k < w.length
    · have hl2:=hl.keep (hK1.trans hK);have hix:=SlI_ix hl2 hlt;have hrd:=(hl2.rdI hlt).1;have hc2:=hc.keep (hK1.trans hK);have hltc:k < c.length:=by omega
      have hix2:=SlI_ix hc2 hltc;have hrd2:=(hc2.rdI hltc).1;have hw:=wrap_succ hlt hl.ml;have hlt':(k:Int) < (w.length:Int):=by omega
      have hck:=hcm _ (getD_mem (d:=0) hltc);have hm1:0 ≤ c.getD k 0 * d:=Int.mul_nonneg hck.1 (by omega)
      have hm2:c.getD k 0 * d ≤ 100000 * 1000000:=Int.mul_le_mul hck.2 hd.2 (by omega) (by omega)
      have hw2:IntKind.i64.wrap (c.getD k 0 * d) = c.getD k 0 * d:=IntWalk.i64_in _ (by omega)
      clear hl hc hl2 hc2 hP hm1 hm2 rd0 rd1 rd2 e1
      repeat' (first | (with_reducible refine Zafd (fun h => ?_) (fun h => ?_)) | (with_reducible refine Zafa (fun h => ?_) (fun h => ?_)) | (with_reducible refine Zafh (fun h => ?_) (fun h => ?_)) | simp only [↓Zadl,↓Zadf,↓Zadi,↓Zadk,↓Zaas,↓Zaat,↓Zade,↓Zadg,↓Zadh,↓Zadj,↓Zafk,↓Zafj,↓Zaey,↓Zaau,↓Zaeo,↓Zadp,↓Zaer,↓Zado,↓Zadt,↓Zadu,↓Zadv,↓Zaef,↓Zaeg,↓Zaeq,↓Zads,↓Zaev,↓Zadx,↓Zaej,↓Zaei,↓Zaek,↓Zael,↓Zaet,↓Zaec,↓Zaeb,↓Zaee,↓Zaed,↓Zaeu,↓Zaea,↓Zaeh,↓Zaen,↓Zaes,↓Zaep,↓Zady,↓Zaem,↓Zadz,↓Zaex,↓Zafq,↓Zacb,↓Zabt,↓Zaay,↓Zabv,↓Zaav,↓Zaba,↓Zabb,↓Zabc,↓Zabn,↓Zabx,↓Zabu,↓Zaaz,↓Zaby,↓Zabp,↓Zabo,↓Zabq,↓Zabw,↓Zabj,↓Zabi,↓Zabl,↓Zabk,↓Zaax,↓Zabh,↓Zabz,↓Zabm,↓Zabd,↓Zaaw,↓Zabg,↓Zabe,↓Zabr,↓Zabs,↓Zabf,↓Zafn,↓bxPut,↓Zadb,↓Zacz,↓Zadc,↓Zada,↓Zaaq,↓Zaar,↓Zaap,↓Zaao,↓Zacp,↓Zacn,↓Zacq,↓Zaco,↓Zacx,↓Zacy,↓Zafo,↓Zafp,↓Zaca,↓Zafs,↓Zacj,↓Zacg,↓Zaci,↓Zach,↓dstAt,↓Zacl,Zacd,Zacf,Zace,Zaan,eql_str,neq_str,Zaaa,Zaac,Zaab,Zaai,Zaah,Zaaj,Zafm,Zafl,mm_max,mm_min,Zaal,Zaam,Zaak,Zacm,Zafr,una_nt,una_nf,una_neg,Zaag,Zaaf,Zadm,Zadn,Zaff,Zafe,Zafc,Zafb,Zaez,Zafi,Zafg,Zacs,Zact,List.map,List.nil_append,List.cons_append,List.append_nil,↓reduceIte,Nat.reduceEqDiff,Nat.reduceLT,dec_T,dec_F,Zack,true_and,and_true,true_implies,implies_true,false_and,and_false,true_or,or_true,false_or,or_false,and_self,or_self,Zacv,Zadd,Zacr,Zacw,Zaae,Nat.add_zero,Nat.mul_one,one1,Option.bind_some,ne_eq,Int.natCast_nonneg,Int.toNat_natCast,not_true_eq_false,not_false_eq_true,Option.map_some,Option.map_none, *,lenI,ldI,ldIs,fldP0,fldP1,hb1] | (with_reducible first | refine Zadr (by assumption) (by decide +kernel) ?_ | refine Zadq (by decide +kernel) ?_ | refine Zaew (by decide +kernel) ?_ | refine Zadw ?_))
      all_goals first
        | exact bool_f fun hh => absurd (hh.2.2.1 k hlt) ‹_›
        | exact ⟨bool_f fun hh => absurd (hh.2.2.1 k hlt) ‹_›,hK1.trans hK⟩
        | exact ⟨_,by omega,k + 1,rfl,by omega,(fun i hi => by
            rcases Nat.lt_or_ge i k with h | h
            · exact hall i h
            · rw [show i = k by omega]; exact Decidable.not_not.1 ‹_›),rfl⟩
    · have hlt':¬ (k:Int) < (w.length:Int):=by omega
      have hke:w.length ≤ k:=by omega
      have hall':∀ i,i < w.length → 0 ≤ w.getD i 0 ∧ w.getD i 0 ≤ c.getD i 0 * d:=fun i hi => hall i (by omega)
      have hl2:=(hl.keep (hK1.trans hK)).keep (Keep.relowS H3);have hp:∀ x ∈ w,0 ≤ x ∧ x ≤ 100000000000:=all_of (d:=0) fun j hj => by
        have h1:=hall' j hj;have h2:=hcm _ (getD_mem (l:=c) (k:=j) (d:=0) (by omega))
        have h3:c.getD j 0 * d ≤ 100000 * 1000000:=Int.mul_le_mul h2.2 hd.2 (by omega) (by omega)
        omega
      have hsum:=sum_le 100000000000 w fun x hx => (hp x hx).2
      have he:0 ≤ e ∧ e ≤ 100000:=hP.1;have hm1:0 ≤ e * d:=Int.mul_nonneg he.1 (by omega)
      have hm2:e * d ≤ 100000 * 1000000:=Int.mul_le_mul he.2 hd.2 (by omega) (by omega)
      have hw2:IntKind.i64.wrap (e * d) = e * d:=IntWalk.i64_in _ (by omega)
      have hb2:=(total_runs hS _ w r2 o2 (H3.relow H3.size) hl2 (fun x hx => (hp x hx).1) (by omega)).bx
      have hob:=drawn hL3 (cdiv_runs hS _ w d r2 o2 (H3.relow H3.size) hl2 (fun x hx => (hp x hx).1) (by omega))
      obtain ⟨H4,H5,hK5',hL5,hb3,hd4⟩:=hob;have hK5:=(hK1.trans hK).trans hK5';clear hl hc hl2 hP hm1 hm2 rd0 rd1 rd2 e1 hsum hall hp
      repeat' (first | (with_reducible refine Zafd (fun h => ?_) (fun h => ?_)) | (with_reducible refine Zafa (fun h => ?_) (fun h => ?_)) | (with_reducible refine Zafh (fun h => ?_) (fun h => ?_)) | simp only [↓Zadl,↓Zadf,↓Zadi,↓Zadk,↓Zaas,↓Zaat,↓Zade,↓Zadg,↓Zadh,↓Zadj,↓Zafk,↓Zafj,↓Zaey,↓Zaau,↓Zaeo,↓Zadp,↓Zaer,↓Zado,↓Zadt,↓Zadu,↓Zadv,↓Zaef,↓Zaeg,↓Zaeq,↓Zads,↓Zaev,↓Zadx,↓Zaej,↓Zaei,↓Zaek,↓Zael,↓Zaet,↓Zaec,↓Zaeb,↓Zaee,↓Zaed,↓Zaeu,↓Zaea,↓Zaeh,↓Zaen,↓Zaes,↓Zaep,↓Zady,↓Zaem,↓Zadz,↓Zaex,↓Zafq,↓Zacb,↓Zabt,↓Zaay,↓Zabv,↓Zaav,↓Zaba,↓Zabb,↓Zabc,↓Zabn,↓Zabx,↓Zabu,↓Zaaz,↓Zaby,↓Zabp,↓Zabo,↓Zabq,↓Zabw,↓Zabj,↓Zabi,↓Zabl,↓Zabk,↓Zaax,↓Zabh,↓Zabz,↓Zabm,↓Zabd,↓Zaaw,↓Zabg,↓Zabe,↓Zabr,↓Zabs,↓Zabf,↓Zafn,↓bxPut,↓Zadb,↓Zacz,↓Zadc,↓Zada,↓Zaaq,↓Zaar,↓Zaap,↓Zaao,↓Zacp,↓Zacn,↓Zacq,↓Zaco,↓Zacx,↓Zacy,↓Zafo,↓Zafp,↓Zaca,↓Zafs,↓Zacj,↓Zacg,↓Zaci,↓Zach,↓dstAt,↓Zacl,Zacd,Zacf,Zace,Zaan,eql_str,neq_str,Zaaa,Zaac,Zaab,Zaai,Zaah,Zaaj,Zafm,Zafl,mm_max,mm_min,Zaal,Zaam,Zaak,Zacm,Zafr,una_nt,una_nf,una_neg,Zaag,Zaaf,Zadm,Zadn,Zaff,Zafe,Zafc,Zafb,Zaez,Zafi,Zafg,Zacs,Zact,List.map,List.nil_append,List.cons_append,List.append_nil,↓reduceIte,Nat.reduceEqDiff,Nat.reduceLT,dec_T,dec_F,Zack,true_and,and_true,true_implies,implies_true,false_and,and_false,true_or,or_true,false_or,or_false,and_self,or_self,Zacv,Zadd,Zacr,Zacw,Zaae,Nat.add_zero,Nat.mul_one,one1,Option.bind_some,ne_eq,Int.natCast_nonneg,Int.toNat_natCast,not_true_eq_false,not_false_eq_true,Option.map_some,Option.map_none, *,lenI,ldI,ldIs,ldPa,fldP0,fldP1,hb2,hb3,hd4] | (with_reducible first | refine Zadr (by assumption) (by decide +kernel) ?_ | refine Zadq (by decide +kernel) ?_ | refine Zaew (by decide +kernel) ?_ | refine Zadw ?_))
      · exact bool_d ⟨fun hh => ⟨by omega,hd,hall',‹_›,hh⟩,fun hh => hh.2.2.2.2⟩
      · exact ⟨bool_f fun hh => absurd hh.2.2.2.1 ‹_›,hK1.trans hK⟩
  · exact bool_f fun hh => absurd hh.1 (by omega)
end Go.Proofs.Ytmpbapffjapghaa.Q
namespace Go.Proofs.Ytmpbapffjapghaa
open Go Go.AM
set_option maxRecDepth 10000
theorem ldPa (H:Heap) (r o:Nat):aLoad Try.prog H 24 (.pointer (some ⟨r,o,none⟩)) = (H.read r o 2).map fun l => .agg ⟨l⟩:=by kernel_rfl
variable {S:AM.Sys} (hS:Only S 5)
include hS

end Go.Proofs.Ytmpbapffjapghaa
namespace Go.Proofs.Ytmpbapffjapghaa
open Go Go.AM
set_option maxRecDepth 10000

theorem list_is {n:Nat} {u:List Int} (f:Nat → Int) (hn:u.length = n) {w:List Int} (hw:w.length = n) (h1:∀ i,i < n → u.getD i 0 = f i) (h2:∀ i,i < n → w.getD i 0 = f i):u = w:=by
  apply List.ext_getElem?;intro i
  by_cases hi:i < n
  · have e1:=h1 i hi;have e2:=h2 i hi;rw [List.getD_eq_getElem?_getD,List.getElem?_eq_getElem (by omega),Option.getD_some] at e1 e2
    rw [List.getElem?_eq_getElem (by omega),List.getElem?_eq_getElem (by omega),e1,e2]
  · rw [List.getElem?_eq_none (by omega),List.getElem?_eq_none (by omega)]
theorem stI1 {H0 H:Heap} {r:Nat} {w:List Int} (hk:Keep H0 H) (hr:H0.size ≤ r) (ow:Own H r 3 (w.map fun z => .int .i64 z)) (z:Int) {o:Nat} (ho:o < w.length) :
    ∃ Ha,aStore Try.prog H 3 (.pointer (some ⟨r,o,none⟩)) (.int .i64 z) = some Ha ∧ Keep H0 Ha ∧ Ha.size = H.size ∧ Own Ha r 3 ((w.set o z).map fun z => .int .i64 z) ∧ (∀ r' e' c',r' ≠ r → Own H r' e' c' → Own Ha r' e' c'):=by
  obtain ⟨i,_,hi,hs,_⟩:=infoI;obtain ⟨Ha,h1,h2,h3,h4,h5⟩:=ow.store (t:=3) hi (v:=.int .i64 z) (new:=[.int .i64 z]) rfl (hs.trans rfl) rfl (o:=o) (by rw [List.length_map]; exact ho)
  rw [splice_map ho] at h2;exact ⟨Ha,h1,h5 H0 hk hr,h3,h2,h4⟩
variable {S:AM.Sys} (hS:Only S 5)
include hS

end Go.Proofs.Ytmpbapffjapghaa
namespace Go.Proofs.Ytmpbapffjapghaa
open Go Go.AM

theorem sum_range (w:List Int):w.sum = ((List.range w.length).map fun i => w.getD i 0).sum:=by
  congr 1;apply List.ext_getElem?;intro i;rw [List.getElem?_map]
  by_cases hi:i < w.length
  · rw [List.getElem?_range hi,Option.map_some,List.getD_eq_getElem?_getD,List.getElem?_eq_getElem hi]; rfl
  · rw [List.getElem?_eq_none (by omega),List.getElem?_eq_none (by simp; omega)]; rfl
theorem sum_congr {n:Nat} {f g:Nat → Int} (h:∀ i,i < n → f i = g i):((List.range n).map f).sum = ((List.range n).map g).sum:=by
  congr 1;exact List.map_congr_left fun i hi => h i (List.mem_range.1 hi)
section sc
variable {g:Int} {w:List Int} {d:Int} {w':List Int} {d':Int} {e:Int} {c:List Int}
end sc
end Go.Proofs.Ytmpbapffjapghaa
namespace Go.Proofs.Ytmpbapffjapghaa
open Go Go.AM
set_option maxRecDepth 10000

theorem bit_and:∀ came:Nat,came < 128 → ∀ j,j < 7 → (BitVec.ofInt 64 (came:Int) &&& BitVec.ofInt 64 ((2 ^ j:Nat):Int)).toNat = if came.testBit j then 2 ^ j else 0:=by decide +kernel
theorem pow_small:∀ j,j < 8 → 2 ^ j ≤ 128:=by decide
theorem sum_nonneg {l:List Int} (h:∀ x ∈ l,0 ≤ x):0 ≤ l.sum:=by
  induction l with
  | nil => simp
  | cons a l ih => rw [List.sum_cons]; have:=h a (List.mem_cons_self ..); have:=ih fun x hx => h x (List.mem_cons_of_mem _ hx); omega
theorem wrapN {x:Nat} (h:x ≤ 1000):IntKind.i64.wrap (x:Int) = (x:Int):=IntWalk.i64_in _ (by omega)
variable {S:AM.Sys} (hS:Only S 5)
include hS

theorem only_runs (j:Nat) (hj:j < 7) (H:Heap):Runs Try.prog S (.fn 56) [.int .i64 (j:Int)] H (.int .i64 ((2 ^ j:Nat):Int)) H:=by
  suffices h:WCall Try.prog S (.fn 56) [.int .i64 (j:Int)] H (fun v H' => v = .int .i64 ((2 ^ j:Nat):Int) ∧ H' = H) by
    obtain ⟨_,_,hr,rfl,rfl⟩:=h; exact hr
  have hp:=pow_small j (by omega)
  have h0:(0:Int) ≤ (j:Int):=Int.natCast_nonneg _;have hw:IntKind.i64.wrap (1 * 2 ^ min j IntKind.i64.bits) = ((2 ^ j:Nat):Int):=by
    rw [show min j IntKind.i64.bits = j from Nat.min_eq_left (by show j ≤ 64; omega),Int.one_mul,Int.natCast_pow]
    have:((2:Int) ^ j) = ((2 ^ j:Nat):Int):=by rw [Int.natCast_pow]; rfl
    show IntKind.i64.wrap ((2:Int) ^ j) = (2:Int) ^ j;rw [this];exact wrapN (by omega)
  refine call_of Try.func56 rfl (Nat.le_of_ble_eq_true rfl) (hS.no rfl _ _) ?_
  rw [Try.ntmps56,Try.results56]
  repeat' (first | (with_reducible refine Zafd (fun h => ?_) (fun h => ?_)) | (with_reducible refine Zafa (fun h => ?_) (fun h => ?_)) | (with_reducible refine Zafh (fun h => ?_) (fun h => ?_)) | simp only [↓Zadl,↓Zadf,↓Zadi,↓Zadk,↓Zaas,↓Zaat,↓Zade,↓Zadg,↓Zadh,↓Zadj,↓Zafk,↓Zafj,↓Zaey,↓Zaau,↓Zaeo,↓Zadp,↓Zaer,↓Zado,↓Zadt,↓Zadu,↓Zadv,↓Zaef,↓Zaeg,↓Zaeq,↓Zads,↓Zaev,↓Zadx,↓Zaej,↓Zaei,↓Zaek,↓Zael,↓Zaet,↓Zaec,↓Zaeb,↓Zaee,↓Zaed,↓Zaeu,↓Zaea,↓Zaeh,↓Zaen,↓Zaes,↓Zaep,↓Zady,↓Zaem,↓Zadz,↓Zaex,↓Zafq,↓Zacb,↓Zabt,↓Zaay,↓Zabv,↓Zaav,↓Zaba,↓Zabb,↓Zabc,↓Zabn,↓Zabx,↓Zabu,↓Zaaz,↓Zaby,↓Zabp,↓Zabo,↓Zabq,↓Zabw,↓Zabj,↓Zabi,↓Zabl,↓Zabk,↓Zaax,↓Zabh,↓Zabz,↓Zabm,↓Zabd,↓Zaaw,↓Zabg,↓Zabe,↓Zabr,↓Zabs,↓Zabf,↓Zafn,↓bxPut,↓Zadb,↓Zacz,↓Zadc,↓Zada,↓Zaaq,↓Zaar,↓Zaap,↓Zaao,↓Zacp,↓Zacn,↓Zacq,↓Zaco,↓Zacx,↓Zacy,↓Zafo,↓Zafp,↓Zaca,↓Zafs,↓Zacj,↓Zacg,↓Zaci,↓Zach,↓dstAt,↓Zacl,Zacd,Zacf,Zace,Zaan,eql_str,neq_str,Zaaa,Zaac,Zaab,Zaai,Zaah,Zaaj,Zafm,Zafl,mm_max,mm_min,Zaal,Zaam,Zaak,Zacm,Zafr,una_nt,una_nf,una_neg,Zaag,Zaaf,Zadm,Zadn,Zaff,Zafe,Zafc,Zafb,Zaez,Zafi,Zafg,Zacs,Zact,List.map,List.nil_append,List.cons_append,List.append_nil,↓reduceIte,Nat.reduceEqDiff,Nat.reduceLT,dec_T,dec_F,Zack,true_and,and_true,true_implies,implies_true,false_and,and_false,true_or,or_true,false_or,or_false,and_self,or_self,Zacv,Zadd,Zacr,Zacw,Zaae,Nat.add_zero,Nat.mul_one,one1,Option.bind_some,ne_eq,Int.natCast_nonneg,Int.toNat_natCast,not_true_eq_false,not_false_eq_true,Option.map_some,Option.map_none, *,argF,List.getD_cons_zero,List.getD_cons_succ] | (with_reducible first | refine Zadr (by assumption) (by decide +kernel) ?_ | refine Zadq (by decide +kernel) ?_ | refine Zaew (by decide +kernel) ?_ | refine Zadw ?_))
theorem has_runs (came j:Nat) (hc:came < 128) (hj:j < 7) (H:Heap):Runs Try.prog S (.fn 48) [.int .i64 (came:Int),.int .i64 (j:Int)] H (.bool (came.testBit j)) H:=by
  suffices h:WCall Try.prog S (.fn 48) [.int .i64 (came:Int),.int .i64 (j:Int)] H (fun v H' => v = .bool (came.testBit j) ∧ H' = H) by
    obtain ⟨_,_,hr,rfl,rfl⟩:=h; exact hr
  have f1:=(only_runs hS j hj H).bx;have hp:=pow_small j (by omega)
  have hpos:0 < 2 ^ j:=Nat.two_pow_pos j;have ha:IntKind.i64.wrap (((BitVec.ofInt IntKind.i64.bits (came:Int) &&& BitVec.ofInt IntKind.i64.bits ((2 ^ j:Nat):Int)).toNat:Nat):Int) = if came.testBit j then ((2 ^ j:Nat):Int) else 0:=by
    rw [show (BitVec.ofInt IntKind.i64.bits (came:Int) &&& BitVec.ofInt IntKind.i64.bits ((2 ^ j:Nat):Int)).toNat = _ from bit_and came hc j hj]
    split
    · exact wrapN (by omega)
    · rfl
  have hd:decide (¬ (if came.testBit j then ((2 ^ j:Nat):Int) else 0) = 0) = came.testBit j:=by
    cases came.testBit j with
    | true =>
      simp only [if_true];refine decide_eq_true fun h => ?_
      have h:2 ^ j = 0:=Int.ofNat.inj h;omega
    | false => simp
  refine call_of Try.func48 rfl (Nat.le_of_ble_eq_true rfl) (hS.no rfl _ _) ?_
  rw [Try.ntmps48,Try.results48]
  repeat' (first | (with_reducible refine Zafd (fun h => ?_) (fun h => ?_)) | (with_reducible refine Zafa (fun h => ?_) (fun h => ?_)) | (with_reducible refine Zafh (fun h => ?_) (fun h => ?_)) | simp only [↓Zadl,↓Zadf,↓Zadi,↓Zadk,↓Zaas,↓Zaat,↓Zade,↓Zadg,↓Zadh,↓Zadj,↓Zafk,↓Zafj,↓Zaey,↓Zaau,↓Zaeo,↓Zadp,↓Zaer,↓Zado,↓Zadt,↓Zadu,↓Zadv,↓Zaef,↓Zaeg,↓Zaeq,↓Zads,↓Zaev,↓Zadx,↓Zaej,↓Zaei,↓Zaek,↓Zael,↓Zaet,↓Zaec,↓Zaeb,↓Zaee,↓Zaed,↓Zaeu,↓Zaea,↓Zaeh,↓Zaen,↓Zaes,↓Zaep,↓Zady,↓Zaem,↓Zadz,↓Zaex,↓Zafq,↓Zacb,↓Zabt,↓Zaay,↓Zabv,↓Zaav,↓Zaba,↓Zabb,↓Zabc,↓Zabn,↓Zabx,↓Zabu,↓Zaaz,↓Zaby,↓Zabp,↓Zabo,↓Zabq,↓Zabw,↓Zabj,↓Zabi,↓Zabl,↓Zabk,↓Zaax,↓Zabh,↓Zabz,↓Zabm,↓Zabd,↓Zaaw,↓Zabg,↓Zabe,↓Zabr,↓Zabs,↓Zabf,↓Zafn,↓bxPut,↓Zadb,↓Zacz,↓Zadc,↓Zada,↓Zaaq,↓Zaar,↓Zaap,↓Zaao,↓Zacp,↓Zacn,↓Zacq,↓Zaco,↓Zacx,↓Zacy,↓Zafo,↓Zafp,↓Zaca,↓Zafs,↓Zacj,↓Zacg,↓Zaci,↓Zach,↓dstAt,↓Zacl,Zacd,Zacf,Zace,Zaan,eql_str,neq_str,Zaaa,Zaac,Zaab,Zaai,Zaah,Zaaj,Zafm,Zafl,mm_max,mm_min,Zaal,Zaam,Zaak,Zacm,Zafr,una_nt,una_nf,una_neg,Zaag,Zaaf,Zadm,Zadn,Zaff,Zafe,Zafc,Zafb,Zaez,Zafi,Zafg,Zacs,Zact,List.map,List.nil_append,List.cons_append,List.append_nil,↓reduceIte,Nat.reduceEqDiff,Nat.reduceLT,dec_T,dec_F,Zack,true_and,and_true,true_implies,implies_true,false_and,and_false,true_or,or_true,false_or,or_false,and_self,or_self,Zacv,Zadd,Zacr,Zacw,Zaae,Nat.add_zero,Nat.mul_one,one1,Option.bind_some,ne_eq,Int.natCast_nonneg,Int.toNat_natCast,not_true_eq_false,not_false_eq_true,Option.map_some,Option.map_none, *,argF,List.getD_cons_zero,List.getD_cons_succ,Zacm] | (with_reducible first | refine Zadr (by assumption) (by decide +kernel) ?_ | refine Zadq (by decide +kernel) ?_ | refine Zaew (by decide +kernel) ?_ | refine Zadw ?_))
theorem every_runs (n:Nat) (hn:n ≤ 7) (H:Heap):Runs Try.prog S (.fn 27) [.int .i64 (n:Int)] H (.int .i64 ((2 ^ n - 1:Nat):Int)) H:=by
  suffices h:WCall Try.prog S (.fn 27) [.int .i64 (n:Int)] H (fun v H' => v = .int .i64 ((2 ^ n - 1:Nat):Int) ∧ H' = H) by
    obtain ⟨_,_,hr,rfl,rfl⟩:=h; exact hr
  have hp:=pow_small n (by omega)
  have hpos:0 < 2 ^ n:=Nat.two_pow_pos n;have h0:(0:Int) ≤ (n:Int):=Int.natCast_nonneg _;have hw:IntKind.i64.wrap (1 * 2 ^ min n IntKind.i64.bits) = ((2 ^ n:Nat):Int):=by
    rw [show min n IntKind.i64.bits = n from Nat.min_eq_left (by show n ≤ 64; omega),Int.one_mul]
    have:((2:Int) ^ n) = ((2 ^ n:Nat):Int):=by rw [Int.natCast_pow]; rfl
    rw [this];exact wrapN (by omega)
  have hw2:IntKind.i64.wrap (((2 ^ n:Nat):Int) - 1) = ((2 ^ n - 1:Nat):Int):=by
    obtain ⟨q,hq⟩:∃ q,q = 2 ^ n:=⟨_,rfl⟩;rw [← hq] at hp hpos ⊢;rw [IntWalk.i64_in _ (by omega)]; omega
  refine call_of Try.func27 rfl (Nat.le_of_ble_eq_true rfl) (hS.no rfl _ _) ?_
  rw [Try.ntmps27,Try.results27]
  repeat' (first | (with_reducible refine Zafd (fun h => ?_) (fun h => ?_)) | (with_reducible refine Zafa (fun h => ?_) (fun h => ?_)) | (with_reducible refine Zafh (fun h => ?_) (fun h => ?_)) | simp only [↓Zadl,↓Zadf,↓Zadi,↓Zadk,↓Zaas,↓Zaat,↓Zade,↓Zadg,↓Zadh,↓Zadj,↓Zafk,↓Zafj,↓Zaey,↓Zaau,↓Zaeo,↓Zadp,↓Zaer,↓Zado,↓Zadt,↓Zadu,↓Zadv,↓Zaef,↓Zaeg,↓Zaeq,↓Zads,↓Zaev,↓Zadx,↓Zaej,↓Zaei,↓Zaek,↓Zael,↓Zaet,↓Zaec,↓Zaeb,↓Zaee,↓Zaed,↓Zaeu,↓Zaea,↓Zaeh,↓Zaen,↓Zaes,↓Zaep,↓Zady,↓Zaem,↓Zadz,↓Zaex,↓Zafq,↓Zacb,↓Zabt,↓Zaay,↓Zabv,↓Zaav,↓Zaba,↓Zabb,↓Zabc,↓Zabn,↓Zabx,↓Zabu,↓Zaaz,↓Zaby,↓Zabp,↓Zabo,↓Zabq,↓Zabw,↓Zabj,↓Zabi,↓Zabl,↓Zabk,↓Zaax,↓Zabh,↓Zabz,↓Zabm,↓Zabd,↓Zaaw,↓Zabg,↓Zabe,↓Zabr,↓Zabs,↓Zabf,↓Zafn,↓bxPut,↓Zadb,↓Zacz,↓Zadc,↓Zada,↓Zaaq,↓Zaar,↓Zaap,↓Zaao,↓Zacp,↓Zacn,↓Zacq,↓Zaco,↓Zacx,↓Zacy,↓Zafo,↓Zafp,↓Zaca,↓Zafs,↓Zacj,↓Zacg,↓Zaci,↓Zach,↓dstAt,↓Zacl,Zacd,Zacf,Zace,Zaan,eql_str,neq_str,Zaaa,Zaac,Zaab,Zaai,Zaah,Zaaj,Zafm,Zafl,mm_max,mm_min,Zaal,Zaam,Zaak,Zacm,Zafr,una_nt,una_nf,una_neg,Zaag,Zaaf,Zadm,Zadn,Zaff,Zafe,Zafc,Zafb,Zaez,Zafi,Zafg,Zacs,Zact,List.map,List.nil_append,List.cons_append,List.append_nil,↓reduceIte,Nat.reduceEqDiff,Nat.reduceLT,dec_T,dec_F,Zack,true_and,and_true,true_implies,implies_true,false_and,and_false,true_or,or_true,false_or,or_false,and_self,or_self,Zacv,Zadd,Zacr,Zacw,Zaae,Nat.add_zero,Nat.mul_one,one1,Option.bind_some,ne_eq,Int.natCast_nonneg,Int.toNat_natCast,not_true_eq_false,not_false_eq_true,Option.map_some,Option.map_none, *,argF,List.getD_cons_zero,List.getD_cons_succ] | (with_reducible first | refine Zadr (by assumption) (by decide +kernel) ?_ | refine Zadq (by decide +kernel) ?_ | refine Zaew (by decide +kernel) ?_ | refine Zadw ?_))
end Go.Proofs.Ytmpbapffjapghaa
namespace Go.Proofs.Ytmpbapffjapghaa
open Go Go.AM
set_option maxRecDepth 10000

theorem sum_le_of {l:List Nat} {f g:Nat → Int} (h:∀ i ∈ l,f i ≤ g i):(l.map f).sum ≤ (l.map g).sum:=by
  induction l with
  | nil => exact Int.le_refl _
  | cons x l ih =>
    simp only [List.map_cons,List.sum_cons];have:=h x (List.mem_cons_self ..);have:=ih fun i hi => h i (List.mem_cons_of_mem _ hi)
    omega
def inS (came n:Nat) (t:List Int):Int:=((List.range n).map fun i => if came.testBit i then t.getD i 0 else 0).sum
def outS (came n:Nat) (c:List Int):Int:=((List.range n).map fun i => if came.testBit i then 0 else c.getD i 0).sum
variable {S:AM.Sys} (hS:Only S 5)
include hS

end Go.Proofs.Ytmpbapffjapghaa
namespace Go.Proofs.Ytmpbapffjapghaa
open Go Go.AM
set_option maxRecDepth 10000

variable {S:AM.Sys} (hS:Only S 5)
include hS

theorem few_runs (a:Option Addr) (n c:Nat) (H:Heap):Runs Try.prog S (.fn 4) [.slice a n c] H (.bool (decide ((n:Int) ≤ 40))) H:=by
  suffices h:WCall Try.prog S (.fn 4) [.slice a n c] H (fun v H' => v = .bool (decide ((n:Int) ≤ 40)) ∧ H' = H) by
    obtain ⟨_,_,hr,rfl,rfl⟩:=h; exact hr
  refine call_of Try.func4 rfl (Nat.le_of_ble_eq_true rfl) (hS.no rfl _ _) ?_
  rw [Try.ntmps4,Try.results4]
  repeat' (first | (with_reducible refine Zafd (fun h => ?_) (fun h => ?_)) | (with_reducible refine Zafa (fun h => ?_) (fun h => ?_)) | (with_reducible refine Zafh (fun h => ?_) (fun h => ?_)) | simp only [↓Zadl,↓Zadf,↓Zadi,↓Zadk,↓Zaas,↓Zaat,↓Zade,↓Zadg,↓Zadh,↓Zadj,↓Zafk,↓Zafj,↓Zaey,↓Zaau,↓Zaeo,↓Zadp,↓Zaer,↓Zado,↓Zadt,↓Zadu,↓Zadv,↓Zaef,↓Zaeg,↓Zaeq,↓Zads,↓Zaev,↓Zadx,↓Zaej,↓Zaei,↓Zaek,↓Zael,↓Zaet,↓Zaec,↓Zaeb,↓Zaee,↓Zaed,↓Zaeu,↓Zaea,↓Zaeh,↓Zaen,↓Zaes,↓Zaep,↓Zady,↓Zaem,↓Zadz,↓Zaex,↓Zafq,↓Zacb,↓Zabt,↓Zaay,↓Zabv,↓Zaav,↓Zaba,↓Zabb,↓Zabc,↓Zabn,↓Zabx,↓Zabu,↓Zaaz,↓Zaby,↓Zabp,↓Zabo,↓Zabq,↓Zabw,↓Zabj,↓Zabi,↓Zabl,↓Zabk,↓Zaax,↓Zabh,↓Zabz,↓Zabm,↓Zabd,↓Zaaw,↓Zabg,↓Zabe,↓Zabr,↓Zabs,↓Zabf,↓Zafn,↓bxPut,↓Zadb,↓Zacz,↓Zadc,↓Zada,↓Zaaq,↓Zaar,↓Zaap,↓Zaao,↓Zacp,↓Zacn,↓Zacq,↓Zaco,↓Zacx,↓Zacy,↓Zafo,↓Zafp,↓Zaca,↓Zafs,↓Zacj,↓Zacg,↓Zaci,↓Zach,↓dstAt,↓Zacl,Zacd,Zacf,Zace,Zaan,eql_str,neq_str,Zaaa,Zaac,Zaab,Zaai,Zaah,Zaaj,Zafm,Zafl,mm_max,mm_min,Zaal,Zaam,Zaak,Zacm,Zafr,una_nt,una_nf,una_neg,Zaag,Zaaf,Zadm,Zadn,Zaff,Zafe,Zafc,Zafb,Zaez,Zafi,Zafg,Zacs,Zact,List.map,List.nil_append,List.cons_append,List.append_nil,↓reduceIte,Nat.reduceEqDiff,Nat.reduceLT,dec_T,dec_F,Zack,true_and,and_true,true_implies,implies_true,false_and,and_false,true_or,or_true,false_or,or_false,and_self,or_self,Zacv,Zadd,Zacr,Zacw,Zaae,Nat.add_zero,Nat.mul_one,one1,Option.bind_some,ne_eq,Int.natCast_nonneg,Int.toNat_natCast,not_true_eq_false,not_false_eq_true,Option.map_some,Option.map_none, *,argF,List.getD_cons_zero,List.getD_cons_succ,lenI] | (with_reducible first | refine Zadr (by assumption) (by decide +kernel) ?_ | refine Zadq (by decide +kernel) ?_ | refine Zaew (by decide +kernel) ?_ | refine Zadw ?_))
end Go.Proofs.Ytmpbapffjapghaa
namespace Go.Proofs.Ytmpbapffjapghaa
open Go Go.AM
set_option maxRecDepth 10000

theorem bit_not:∀ n,n < 8 → ∀ s:Nat,s < 2 ^ n → (BitVec.ofInt 64 ((2 ^ n - 1:Nat):Int) &&& ~~~BitVec.ofInt 64 (s:Int)).toNat = 2 ^ n - 1 - s ∧ ∀ i,i < n → (2 ^ n - 1 - s).testBit i = !s.testBit i:=by decide +kernel
theorem bit_shr:∀ s:Nat,s < 128 → ∀ i,i < 7 → ((s:Int).fdiv (2 ^ min i 64)).tmod 2 = if s.testBit i then 1 else 0:=by decide +kernel
def gv (e:Int) (c:List Int) (s:Nat):Int:=max 0 (e - outS s c.length c)
def gvs (e:Int) (c:List Int):List Int:=(List.range (2 ^ c.length)).map (gv e c)
theorem gvs_len (e:Int) (c:List Int):(gvs e c).length = 2 ^ c.length:=by simp [gvs]
theorem gvs_at {e:Int} {c:List Int} {s:Nat} (h:s < 2 ^ c.length):(gvs e c).getD s 0 = gv e c s:=by
  unfold gvs;rw [List.getD_eq_getElem?_getD,List.getElem?_map,List.getElem?_range h]; rfl
theorem sumBit (s n:Nat) (w:List Int) {k:Nat} (hk:k < n):inS s (k + 1) w = inS s k w + if s.testBit k then w.getD k 0 else 0:=by
  unfold inS;rw [List.range_succ,List.map_append,List.sum_append];simp
theorem inS_rng {s k n:Nat} {w:List Int} {B:Int} (hw:∀ i,i < n → 0 ≤ w.getD i 0 ∧ w.getD i 0 ≤ B) (hk:k ≤ n):0 ≤ inS s k w ∧ inS s k w ≤ k * B:=by
  induction k with
  | zero => simp [inS]
  | succ k ih =>
    have h1:=ih (by omega)
    have h2:=hw k (by omega)
    have h3:((k + 1:Nat):Int) * B = (k:Int) * B + B:=by rw [Int.natCast_add,Int.add_mul]; simp
    rw [sumBit s n w hk];split <;> omega

variable {S:AM.Sys} (hS:Only S 5)
include hS

theorem sumOf_runs (s:Nat) (hs:s < 128) (v:Value) (w:List Int) (r o:Nat) (H:Heap) (hl:SlI .i64 H v w r o) (h7:w.length ≤ 7) (hw:∀ i,i < w.length → 0 ≤ w.getD i 0 ∧ w.getD i 0 ≤ 100000000000) :
    Runs Try.prog S (.fn 28) [.int .i64 (s:Int),v] H (.int .i64 (inS s w.length w)) H:=by
  suffices h:WCall Try.prog S (.fn 28) [.int .i64 (s:Int),v] H (fun u H' => u = .int .i64 (inS s w.length w) ∧ H' = H) by
    obtain ⟨_,_,hr,rfl,rfl⟩:=h; exact hr
  obtain ⟨a,cap,rfl⟩:=hl.v0;refine call_of Try.func28 rfl (Nat.le_of_ble_eq_true rfl) (hS.no rfl _ _) ?_
  rw [Try.ntmps28,Try.results28]
  repeat' (first | (with_reducible refine Zafd (fun h => ?_) (fun h => ?_)) | (with_reducible refine Zafa (fun h => ?_) (fun h => ?_)) | (with_reducible refine Zafh (fun h => ?_) (fun h => ?_)) | simp only [↓Zadl,↓Zadf,↓Zadi,↓Zadk,↓Zaas,↓Zaat,↓Zade,↓Zadg,↓Zadh,↓Zadj,↓Zafk,↓Zafj,↓Zaey,↓Zaau,↓Zaeo,↓Zadp,↓Zaer,↓Zado,↓Zadt,↓Zadu,↓Zadv,↓Zaef,↓Zaeg,↓Zaeq,↓Zads,↓Zaev,↓Zadx,↓Zaej,↓Zaei,↓Zaek,↓Zael,↓Zaet,↓Zaec,↓Zaeb,↓Zaee,↓Zaed,↓Zaeu,↓Zaea,↓Zaeh,↓Zaen,↓Zaes,↓Zaep,↓Zady,↓Zaem,↓Zadz,↓Zaex,↓Zafq,↓Zacb,↓Zabt,↓Zaay,↓Zabv,↓Zaav,↓Zaba,↓Zabb,↓Zabc,↓Zabn,↓Zabx,↓Zabu,↓Zaaz,↓Zaby,↓Zabp,↓Zabo,↓Zabq,↓Zabw,↓Zabj,↓Zabi,↓Zabl,↓Zabk,↓Zaax,↓Zabh,↓Zabz,↓Zabm,↓Zabd,↓Zaaw,↓Zabg,↓Zabe,↓Zabr,↓Zabs,↓Zabf,↓Zafn,↓bxPut,↓Zadb,↓Zacz,↓Zadc,↓Zada,↓Zaaq,↓Zaar,↓Zaap,↓Zaao,↓Zacp,↓Zacn,↓Zacq,↓Zaco,↓Zacx,↓Zacy,↓Zafo,↓Zafp,↓Zaca,↓Zafs,↓Zacj,↓Zacg,↓Zaci,↓Zach,↓dstAt,↓Zacl,Zacd,Zacf,Zace,Zaan,eql_str,neq_str,Zaaa,Zaac,Zaab,Zaai,Zaah,Zaaj,Zafm,Zafl,mm_max,mm_min,Zaal,Zaam,Zaak,Zacm,Zafr,una_nt,una_nf,una_neg,Zaag,Zaaf,Zadm,Zadn,Zaff,Zafe,Zafc,Zafb,Zaez,Zafi,Zafg,Zacs,Zact,List.map,List.nil_append,List.cons_append,List.append_nil,↓reduceIte,Nat.reduceEqDiff,Nat.reduceLT,dec_T,dec_F,Zack,true_and,and_true,true_implies,implies_true,false_and,and_false,true_or,or_true,false_or,or_false,and_self,or_self,Zacv,Zadd,Zacr,Zacw,Zaae,Nat.add_zero,Nat.mul_one,one1,Option.bind_some,ne_eq,Int.natCast_nonneg,Int.toNat_natCast,not_true_eq_false,not_false_eq_true,Option.map_some,Option.map_none, *,argF,List.getD_cons_zero,List.getD_cons_succ,lenI] | (with_reducible first | refine Zadr (by assumption) (by decide +kernel) ?_ | refine Zadq (by decide +kernel) ?_ | refine Zaew (by decide +kernel) ?_ | refine Zadw ?_))
  refine sxL_of (fun m ρ H1 => ∃ k:Nat,m = w.length - k ∧ k ≤ w.length ∧ H1 = H ∧ ρ 0 = .int .i64 (s:Int) ∧ ρ 5 = .int .i64 (inS s k w) ∧ ρ 8 = .slice a w.length cap ∧ ρ 9 = .int .i64 w.length ∧ ρ 10 = .int .i64 k)
    ⟨0,rfl,Nat.zero_le _,rfl,rfl,rfl,rfl,rfl,rfl⟩ ?_
  rintro m ρ H1 ⟨k,rfl,hk,rfl,e0,e5,e8,e9,e10⟩
  by_cases hlt:k < w.length
  · have hix:=SlI_ix hl hlt;have hrd:=(hl.rdI hlt).1;have hwr:=wrap_succ hlt hl.ml;have hlt':(k:Int) < (w.length:Int):=by omega
    have g1:=sumBit s w.length w hlt;have g2:=inS_rng (s:=s) hw (k:=k) (by omega)
    have g3:=hw k hlt;have hf:=fun H => (has_runs hS s k hs (by omega) H).bx
    have hkB:(k:Int) * 100000000000 ≤ 700000000000:=by omega
    have hwa:IntKind.i64.wrap (inS s k w + w.getD k 0) = inS s k w + w.getD k 0:=IntWalk.i64_in _ (by omega)
    cases hb:s.testBit k with
    | true =>
      rw [hb] at g1 hf;simp only [if_true] at g1;clear hl g2 g3 hkB
      repeat' (first | (with_reducible refine Zafd (fun h => ?_) (fun h => ?_)) | (with_reducible refine Zafa (fun h => ?_) (fun h => ?_)) | (with_reducible refine Zafh (fun h => ?_) (fun h => ?_)) | simp only [↓Zadl,↓Zadf,↓Zadi,↓Zadk,↓Zaas,↓Zaat,↓Zade,↓Zadg,↓Zadh,↓Zadj,↓Zafk,↓Zafj,↓Zaey,↓Zaau,↓Zaeo,↓Zadp,↓Zaer,↓Zado,↓Zadt,↓Zadu,↓Zadv,↓Zaef,↓Zaeg,↓Zaeq,↓Zads,↓Zaev,↓Zadx,↓Zaej,↓Zaei,↓Zaek,↓Zael,↓Zaet,↓Zaec,↓Zaeb,↓Zaee,↓Zaed,↓Zaeu,↓Zaea,↓Zaeh,↓Zaen,↓Zaes,↓Zaep,↓Zady,↓Zaem,↓Zadz,↓Zaex,↓Zafq,↓Zacb,↓Zabt,↓Zaay,↓Zabv,↓Zaav,↓Zaba,↓Zabb,↓Zabc,↓Zabn,↓Zabx,↓Zabu,↓Zaaz,↓Zaby,↓Zabp,↓Zabo,↓Zabq,↓Zabw,↓Zabj,↓Zabi,↓Zabl,↓Zabk,↓Zaax,↓Zabh,↓Zabz,↓Zabm,↓Zabd,↓Zaaw,↓Zabg,↓Zabe,↓Zabr,↓Zabs,↓Zabf,↓Zafn,↓bxPut,↓Zadb,↓Zacz,↓Zadc,↓Zada,↓Zaaq,↓Zaar,↓Zaap,↓Zaao,↓Zacp,↓Zacn,↓Zacq,↓Zaco,↓Zacx,↓Zacy,↓Zafo,↓Zafp,↓Zaca,↓Zafs,↓Zacj,↓Zacg,↓Zaci,↓Zach,↓dstAt,↓Zacl,Zacd,Zacf,Zace,Zaan,eql_str,neq_str,Zaaa,Zaac,Zaab,Zaai,Zaah,Zaaj,Zafm,Zafl,mm_max,mm_min,Zaal,Zaam,Zaak,Zacm,Zafr,una_nt,una_nf,una_neg,Zaag,Zaaf,Zadm,Zadn,Zaff,Zafe,Zafc,Zafb,Zaez,Zafi,Zafg,Zacs,Zact,List.map,List.nil_append,List.cons_append,List.append_nil,↓reduceIte,Nat.reduceEqDiff,Nat.reduceLT,dec_T,dec_F,Zack,true_and,and_true,true_implies,implies_true,false_and,and_false,true_or,or_true,false_or,or_false,and_self,or_self,Zacv,Zadd,Zacr,Zacw,Zaae,Nat.add_zero,Nat.mul_one,one1,Option.bind_some,ne_eq,Int.natCast_nonneg,Int.toNat_natCast,not_true_eq_false,not_false_eq_true,Option.map_some,Option.map_none, *,lenI,ldI] | (with_reducible first | refine Zadr (by assumption) (by decide +kernel) ?_ | refine Zadq (by decide +kernel) ?_ | refine Zaew (by decide +kernel) ?_ | refine Zadw ?_))
      exact ⟨_,by omega,k + 1,rfl,by omega,congrArg (Value.int .i64) g1.symm,rfl⟩
    | false =>
      rw [hb] at g1 hf;simp only [Bool.false_eq_true,if_false,Int.add_zero] at g1;clear hl g2 g3 hkB
      repeat' (first | (with_reducible refine Zafd (fun h => ?_) (fun h => ?_)) | (with_reducible refine Zafa (fun h => ?_) (fun h => ?_)) | (with_reducible refine Zafh (fun h => ?_) (fun h => ?_)) | simp only [↓Zadl,↓Zadf,↓Zadi,↓Zadk,↓Zaas,↓Zaat,↓Zade,↓Zadg,↓Zadh,↓Zadj,↓Zafk,↓Zafj,↓Zaey,↓Zaau,↓Zaeo,↓Zadp,↓Zaer,↓Zado,↓Zadt,↓Zadu,↓Zadv,↓Zaef,↓Zaeg,↓Zaeq,↓Zads,↓Zaev,↓Zadx,↓Zaej,↓Zaei,↓Zaek,↓Zael,↓Zaet,↓Zaec,↓Zaeb,↓Zaee,↓Zaed,↓Zaeu,↓Zaea,↓Zaeh,↓Zaen,↓Zaes,↓Zaep,↓Zady,↓Zaem,↓Zadz,↓Zaex,↓Zafq,↓Zacb,↓Zabt,↓Zaay,↓Zabv,↓Zaav,↓Zaba,↓Zabb,↓Zabc,↓Zabn,↓Zabx,↓Zabu,↓Zaaz,↓Zaby,↓Zabp,↓Zabo,↓Zabq,↓Zabw,↓Zabj,↓Zabi,↓Zabl,↓Zabk,↓Zaax,↓Zabh,↓Zabz,↓Zabm,↓Zabd,↓Zaaw,↓Zabg,↓Zabe,↓Zabr,↓Zabs,↓Zabf,↓Zafn,↓bxPut,↓Zadb,↓Zacz,↓Zadc,↓Zada,↓Zaaq,↓Zaar,↓Zaap,↓Zaao,↓Zacp,↓Zacn,↓Zacq,↓Zaco,↓Zacx,↓Zacy,↓Zafo,↓Zafp,↓Zaca,↓Zafs,↓Zacj,↓Zacg,↓Zaci,↓Zach,↓dstAt,↓Zacl,Zacd,Zacf,Zace,Zaan,eql_str,neq_str,Zaaa,Zaac,Zaab,Zaai,Zaah,Zaaj,Zafm,Zafl,mm_max,mm_min,Zaal,Zaam,Zaak,Zacm,Zafr,una_nt,una_nf,una_neg,Zaag,Zaaf,Zadm,Zadn,Zaff,Zafe,Zafc,Zafb,Zaez,Zafi,Zafg,Zacs,Zact,List.map,List.nil_append,List.cons_append,List.append_nil,↓reduceIte,Nat.reduceEqDiff,Nat.reduceLT,dec_T,dec_F,Zack,true_and,and_true,true_implies,implies_true,false_and,and_false,true_or,or_true,false_or,or_false,and_self,or_self,Zacv,Zadd,Zacr,Zacw,Zaae,Nat.add_zero,Nat.mul_one,one1,Option.bind_some,ne_eq,Int.natCast_nonneg,Int.toNat_natCast,not_true_eq_false,not_false_eq_true,Option.map_some,Option.map_none, *,lenI,ldI] | (with_reducible first | refine Zadr (by assumption) (by decide +kernel) ?_ | refine Zadq (by decide +kernel) ?_ | refine Zaew (by decide +kernel) ?_ | refine Zadw ?_))
      exact ⟨_,by omega,k + 1,rfl,by omega,congrArg (Value.int .i64) g1.symm,rfl⟩
  · have hlt':¬ (k:Int) < (w.length:Int):=by omega
    obtain rfl:k = w.length:=by omega
    clear hl
    repeat' (first | (with_reducible refine Zafd (fun h => ?_) (fun h => ?_)) | (with_reducible refine Zafa (fun h => ?_) (fun h => ?_)) | (with_reducible refine Zafh (fun h => ?_) (fun h => ?_)) | simp only [↓Zadl,↓Zadf,↓Zadi,↓Zadk,↓Zaas,↓Zaat,↓Zade,↓Zadg,↓Zadh,↓Zadj,↓Zafk,↓Zafj,↓Zaey,↓Zaau,↓Zaeo,↓Zadp,↓Zaer,↓Zado,↓Zadt,↓Zadu,↓Zadv,↓Zaef,↓Zaeg,↓Zaeq,↓Zads,↓Zaev,↓Zadx,↓Zaej,↓Zaei,↓Zaek,↓Zael,↓Zaet,↓Zaec,↓Zaeb,↓Zaee,↓Zaed,↓Zaeu,↓Zaea,↓Zaeh,↓Zaen,↓Zaes,↓Zaep,↓Zady,↓Zaem,↓Zadz,↓Zaex,↓Zafq,↓Zacb,↓Zabt,↓Zaay,↓Zabv,↓Zaav,↓Zaba,↓Zabb,↓Zabc,↓Zabn,↓Zabx,↓Zabu,↓Zaaz,↓Zaby,↓Zabp,↓Zabo,↓Zabq,↓Zabw,↓Zabj,↓Zabi,↓Zabl,↓Zabk,↓Zaax,↓Zabh,↓Zabz,↓Zabm,↓Zabd,↓Zaaw,↓Zabg,↓Zabe,↓Zabr,↓Zabs,↓Zabf,↓Zafn,↓bxPut,↓Zadb,↓Zacz,↓Zadc,↓Zada,↓Zaaq,↓Zaar,↓Zaap,↓Zaao,↓Zacp,↓Zacn,↓Zacq,↓Zaco,↓Zacx,↓Zacy,↓Zafo,↓Zafp,↓Zaca,↓Zafs,↓Zacj,↓Zacg,↓Zaci,↓Zach,↓dstAt,↓Zacl,Zacd,Zacf,Zace,Zaan,eql_str,neq_str,Zaaa,Zaac,Zaab,Zaai,Zaah,Zaaj,Zafm,Zafl,mm_max,mm_min,Zaal,Zaam,Zaak,Zacm,Zafr,una_nt,una_nf,una_neg,Zaag,Zaaf,Zadm,Zadn,Zaff,Zafe,Zafc,Zafb,Zaez,Zafi,Zafg,Zacs,Zact,List.map,List.nil_append,List.cons_append,List.append_nil,↓reduceIte,Nat.reduceEqDiff,Nat.reduceLT,dec_T,dec_F,Zack,true_and,and_true,true_implies,implies_true,false_and,and_false,true_or,or_true,false_or,or_false,and_self,or_self,Zacv,Zadd,Zacr,Zacw,Zaae,Nat.add_zero,Nat.mul_one,one1,Option.bind_some,ne_eq,Int.natCast_nonneg,Int.toNat_natCast,not_true_eq_false,not_false_eq_true,Option.map_some,Option.map_none, *,lenI,ldI] | (with_reducible first | refine Zadr (by assumption) (by decide +kernel) ?_ | refine Zadq (by decide +kernel) ?_ | refine Zaew (by decide +kernel) ?_ | refine Zadw ?_))

set_option maxHeartbeats 4000000 in
theorem game_runs (e:Int) (v:Value) (c:List Int) (r o:Nat) (H:Heap) (hg:Grp H) (hL:H.low ≤ H.size) (hl:SlI .i64 H v c r o) (hp:Q.Prob e c) :
    ∃ v2 r2 H',Runs Try.prog S (.fn 15) [.int .i64 e,v] H v2 H' ∧ Keep H H' ∧ SlI .i64 H' v2 (gvs e c) r2 0 ∧ H.size ≤ r2:=by
  suffices h:WCall Try.prog S (.fn 15) [.int .i64 e,v] H (fun v2 H' => Keep H H' ∧ ∃ r2,SlI .i64 H' v2 (gvs e c) r2 0 ∧ H.size ≤ r2) by
    obtain ⟨v2,H',hr,h1,r2,h2,h3⟩:=h; exact ⟨v2,r2,H',hr,h1,h2,h3⟩
  obtain ⟨va,vc,rfl⟩:=hl.v0;have hc:=hp.2.2.1;have h7:=hp.2.1;have he:=hp.1;have hmx:Go.maxLen = 9223372036854775807:=rfl;have hp2:=pow_small c.length (by omega)
  have hp0:0 < 2 ^ c.length:=Nat.two_pow_pos _;obtain ⟨N,hN⟩:∃ N,N = 2 ^ c.length:=⟨_,rfl⟩;have f1:=(every_runs hS c.length (by omega) H).bx
  have hbn:=fun s hs => bit_not c.length (by omega) s hs
  have hsl:∀ s:Nat,s < N → ∀ H',Keep H H' → ∀ (K:Value → Heap → Prop) (bl:Blk K),sxCallB Try.prog S (.fn 28) [.int .i64 ((N - 1 - s:Nat):Int),.slice va c.length vc] H' K bl = K (.int .i64 (outS s c.length c)) H':=fun s hs H' hk => by
    have h1:=sumOf_runs hS (N - 1 - s) (by omega) _ c r o H' (hl.keep hk) (by omega) (fun i hi => by have:=hc _ (getD_mem (d:=0) hi); omega)
    have h2:inS (N - 1 - s) c.length c = outS s c.length c:=by
      unfold inS outS;refine sum_congr fun i hi => ?_
      rw [hN,(hbn s (by rw [← hN]; exact hs)).2 i hi]
      cases s.testBit i <;> rfl
    rw [h2] at h1;exact h1.bx
  rw [← hN] at f1 hp0 hp2 hbn;have hout:∀ s:Nat,0 ≤ outS s c.length c ∧ outS s c.length c ≤ 700000:=fun s => by
    have h1:outS s c.length c ≤ ((List.range c.length).map fun i => c.getD i 0).sum:=sum_le_of fun i hi => by
      have:=hc _ (getD_mem (d:=0) (List.mem_range.1 hi));split <;> omega
    rw [← sum_range] at h1;have h2:=Q.sum_le 100000 c fun x hx => (hc x hx).2
    refine ⟨?_,by omega⟩
    unfold outS;refine sum_nonneg fun x hx => ?_
    obtain ⟨i,hi,rfl⟩:=List.mem_map.1 hx;have:=hc _ (getD_mem (d:=0) (List.mem_range.1 hi));split <;> omega
  have w1:IntKind.i64.wrap (((N - 1:Nat):Int) + 1) = (N:Int):=by rw [IntWalk.i64_in _ (by omega)]; omega
  have mk:=mkI H (l:=(N:Int)) (by omega) (by omega)
  rw [Int.toNat_natCast] at mk;obtain ⟨H1,e1,k1,s1,z1,-⟩:=box1 H ((List.replicate N (0:Int)).map fun z => .int .i64 z) 3
  have o1:Own H1 H.size 3 ((List.replicate N (0:Int)).map fun z => .int .i64 z):=e1 ▸ Own.new H _ _
  rw [e1] at mk;have hz1:H1.size = H.size + 1:=by rw [← e1,size_new]
  have hNe:N ≤ 2 ^ c.length ∧ 2 ^ c.length ≤ N:=by omega
  clear hl hN;refine call_of Try.func15 rfl (Nat.le_of_ble_eq_true rfl) (hS.no rfl _ _) ?_
  rw [Try.ntmps15,Try.results15]
  repeat' (first | (with_reducible refine Zafd (fun h => ?_) (fun h => ?_)) | (with_reducible refine Zafa (fun h => ?_) (fun h => ?_)) | (with_reducible refine Zafh (fun h => ?_) (fun h => ?_)) | simp only [↓Zadl,↓Zadf,↓Zadi,↓Zadk,↓Zaas,↓Zaat,↓Zade,↓Zadg,↓Zadh,↓Zadj,↓Zafk,↓Zafj,↓Zaey,↓Zaau,↓Zaeo,↓Zadp,↓Zaer,↓Zado,↓Zadt,↓Zadu,↓Zadv,↓Zaef,↓Zaeg,↓Zaeq,↓Zads,↓Zaev,↓Zadx,↓Zaej,↓Zaei,↓Zaek,↓Zael,↓Zaet,↓Zaec,↓Zaeb,↓Zaee,↓Zaed,↓Zaeu,↓Zaea,↓Zaeh,↓Zaen,↓Zaes,↓Zaep,↓Zady,↓Zaem,↓Zadz,↓Zaex,↓Zafq,↓Zacb,↓Zabt,↓Zaay,↓Zabv,↓Zaav,↓Zaba,↓Zabb,↓Zabc,↓Zabn,↓Zabx,↓Zabu,↓Zaaz,↓Zaby,↓Zabp,↓Zabo,↓Zabq,↓Zabw,↓Zabj,↓Zabi,↓Zabl,↓Zabk,↓Zaax,↓Zabh,↓Zabz,↓Zabm,↓Zabd,↓Zaaw,↓Zabg,↓Zabe,↓Zabr,↓Zabs,↓Zabf,↓Zafn,↓bxPut,↓Zadb,↓Zacz,↓Zadc,↓Zada,↓Zaaq,↓Zaar,↓Zaap,↓Zaao,↓Zacp,↓Zacn,↓Zacq,↓Zaco,↓Zacx,↓Zacy,↓Zafo,↓Zafp,↓Zaca,↓Zafs,↓Zacj,↓Zacg,↓Zaci,↓Zach,↓dstAt,↓Zacl,Zacd,Zacf,Zace,Zaan,eql_str,neq_str,Zaaa,Zaac,Zaab,Zaai,Zaah,Zaaj,Zafm,Zafl,mm_max,mm_min,Zaal,Zaam,Zaak,Zacm,Zafr,una_nt,una_nf,una_neg,Zaag,Zaaf,Zadm,Zadn,Zaff,Zafe,Zafc,Zafb,Zaez,Zafi,Zafg,Zacs,Zact,List.map,List.nil_append,List.cons_append,List.append_nil,↓reduceIte,Nat.reduceEqDiff,Nat.reduceLT,dec_T,dec_F,Zack,true_and,and_true,true_implies,implies_true,false_and,and_false,true_or,or_true,false_or,or_false,and_self,or_self,Zacv,Zadd,Zacr,Zacw,Zaae,Nat.add_zero,Nat.mul_one,one1,Option.bind_some,ne_eq,Int.natCast_nonneg,Int.toNat_natCast,not_true_eq_false,not_false_eq_true,Option.map_some,Option.map_none, *,argF,List.getD_cons_zero,List.getD_cons_succ,lenI] | (with_reducible first | refine Zadr (by assumption) (by decide +kernel) ?_ | refine Zadq (by decide +kernel) ?_ | refine Zaew (by decide +kernel) ?_ | refine Zadw ?_))
  refine sxL_of (fun m ρ H2 => ∃ (k:Nat) (u:List Int),m = N - k ∧ k ≤ N ∧ u.length = N ∧ (∀ i,i < k → u.getD i 0 = gv e c i) ∧ Keep H H2 ∧ Own H2 H.size 3 (u.map fun z => .int .i64 z) ∧
      ρ 0 = .int .i64 e ∧ ρ 1 = .slice va c.length vc ∧ ρ 5 = .int .i64 ((N - 1:Nat):Int) ∧ ρ 6 = .slice (some ⟨H.size,0,none⟩) N N ∧ ρ 15 = .int .i64 (N:Int) ∧ ρ 16 = .int .i64 (k:Int))
    ⟨0,List.replicate N 0,rfl,Nat.zero_le _,by simp,(fun i hi => absurd hi (Nat.not_lt_zero i)),k1,o1,rfl,rfl,rfl,rfl,rfl,rfl⟩ ?_
  clear f1 mk o1 e1 w1;rintro m ρ H2 ⟨k,u,rfl,hk,hul,hu,k2,o2,e0,e1',e5,e6,e15,e16⟩
  by_cases hlt:k < N
  · have hlt':(k:Int) < (N:Int):=by omega
    have hwr:=wrap_succ hlt (by omega)
    have hfs:=hsl k hlt H2 k2;have ho:=hout k;have han:IntKind.i64.wrap (((BitVec.ofInt IntKind.i64.bits ((N - 1:Nat):Int) &&& ~~~BitVec.ofInt IntKind.i64.bits (k:Int)).toNat:Nat):Int) = ((N - 1 - k:Nat):Int):=by
      rw [show (BitVec.ofInt IntKind.i64.bits ((N - 1:Nat):Int) &&& ~~~BitVec.ofInt IntKind.i64.bits (k:Int)).toNat = _ from (hbn k hlt).1]
      exact wrapN (by omega)
    have hws:IntKind.i64.wrap (e - outS k c.length c) = e - outS k c.length c:=IntWalk.i64_in _ (by omega)
    have hmax:(if e - outS k c.length c > 0 then e - outS k c.length c else 0) = gv e c k:=by unfold gv; split <;> omega
    have hix2:Zaad Try.prog 22 (.slice (some ⟨H.size,0,none⟩) N N) (.int .i64 (k:Int)) = some (.pointer (some ⟨H.size,k,none⟩)):=by
      rw [ixI,if_pos ⟨by omega,by omega⟩,Int.toNat_natCast,Nat.zero_add,Nat.mul_one]
    obtain ⟨H3,st3,k3,z3,o3,r3⟩:=stI1 k2 (Nat.le_refl _) o2 (gv e c k) (o:=k) (by omega)
    have hu2:∀ i,i < k + 1 → (u.set k (gv e c k)).getD i 0 = gv e c i:=fun i hi => by
      rw [set_getD (by omega)]
      by_cases hik:i = k
      · rw [if_pos hik,hik]
      · rw [if_neg hik]; exact hu i (by omega)
    have hul2:(u.set k (gv e c k)).length = N:=by rw [List.length_set,hul]
    obtain ⟨u2,hu2'⟩:∃ u2,u2 = u.set k (gv e c k):=⟨_,rfl⟩;rw [← hu2'] at hu2 hul2 o3;clear hsl hout hbn hu hul o2 r3 hc he h7 hp ho hu2'
    repeat' (first | (with_reducible refine Zafd (fun h => ?_) (fun h => ?_)) | (with_reducible refine Zafa (fun h => ?_) (fun h => ?_)) | (with_reducible refine Zafh (fun h => ?_) (fun h => ?_)) | simp only [↓Zadl,↓Zadf,↓Zadi,↓Zadk,↓Zaas,↓Zaat,↓Zade,↓Zadg,↓Zadh,↓Zadj,↓Zafk,↓Zafj,↓Zaey,↓Zaau,↓Zaeo,↓Zadp,↓Zaer,↓Zado,↓Zadt,↓Zadu,↓Zadv,↓Zaef,↓Zaeg,↓Zaeq,↓Zads,↓Zaev,↓Zadx,↓Zaej,↓Zaei,↓Zaek,↓Zael,↓Zaet,↓Zaec,↓Zaeb,↓Zaee,↓Zaed,↓Zaeu,↓Zaea,↓Zaeh,↓Zaen,↓Zaes,↓Zaep,↓Zady,↓Zaem,↓Zadz,↓Zaex,↓Zafq,↓Zacb,↓Zabt,↓Zaay,↓Zabv,↓Zaav,↓Zaba,↓Zabb,↓Zabc,↓Zabn,↓Zabx,↓Zabu,↓Zaaz,↓Zaby,↓Zabp,↓Zabo,↓Zabq,↓Zabw,↓Zabj,↓Zabi,↓Zabl,↓Zabk,↓Zaax,↓Zabh,↓Zabz,↓Zabm,↓Zabd,↓Zaaw,↓Zabg,↓Zabe,↓Zabr,↓Zabs,↓Zabf,↓Zafn,↓bxPut,↓Zadb,↓Zacz,↓Zadc,↓Zada,↓Zaaq,↓Zaar,↓Zaap,↓Zaao,↓Zacp,↓Zacn,↓Zacq,↓Zaco,↓Zacx,↓Zacy,↓Zafo,↓Zafp,↓Zaca,↓Zafs,↓Zacj,↓Zacg,↓Zaci,↓Zach,↓dstAt,↓Zacl,Zacd,Zacf,Zace,Zaan,eql_str,neq_str,Zaaa,Zaac,Zaab,Zaai,Zaah,Zaaj,Zafm,Zafl,mm_max,mm_min,Zaal,Zaam,Zaak,Zacm,Zafr,una_nt,una_nf,una_neg,Zaag,Zaaf,Zadm,Zadn,Zaff,Zafe,Zafc,Zafb,Zaez,Zafi,Zafg,Zacs,Zact,List.map,List.nil_append,List.cons_append,List.append_nil,↓reduceIte,Nat.reduceEqDiff,Nat.reduceLT,dec_T,dec_F,Zack,true_and,and_true,true_implies,implies_true,false_and,and_false,true_or,or_true,false_or,or_false,and_self,or_self,Zacv,Zadd,Zacr,Zacw,Zaae,Nat.add_zero,Nat.mul_one,one1,Option.bind_some,ne_eq,Int.natCast_nonneg,Int.toNat_natCast,not_true_eq_false,not_false_eq_true,Option.map_some,Option.map_none, *,lenI,ldI,Zacm] | (with_reducible first | refine Zadr (by assumption) (by decide +kernel) ?_ | refine Zadq (by decide +kernel) ?_ | refine Zaew (by decide +kernel) ?_ | refine Zadw ?_))
    exact ⟨N - (k + 1),by omega,k + 1,u2,rfl,by omega,hul2,hu2,by assumption,rfl⟩
  · have hlt':¬ (k:Int) < (N:Int):=by omega
    have hum:u = gvs e c:=list_is _ hul ((gvs_len e c).trans (by omega)) (fun i hi => hu i (by omega)) (fun i hi => gvs_at (by omega))
    have hrg:∀ z ∈ u,IntKind.i64.min ≤ z ∧ z ≤ IntKind.i64.max:=all_of (d:=0) fun i hi => by
      rw [hu i (by omega)]
      have h5:IntKind.i64.min = -9223372036854775808:=rfl;have h6:IntKind.i64.max = 9223372036854775807:=rfl;have:=hout i;unfold gv;omega
    have hs2:=Own.sl o2 hrg (by omega) N
    rw [hul,hum] at hs2;clear hsl hout hbn hu hul o2 hc he h7 hp hum hrg
    repeat' (first | (with_reducible refine Zafd (fun h => ?_) (fun h => ?_)) | (with_reducible refine Zafa (fun h => ?_) (fun h => ?_)) | (with_reducible refine Zafh (fun h => ?_) (fun h => ?_)) | simp only [↓Zadl,↓Zadf,↓Zadi,↓Zadk,↓Zaas,↓Zaat,↓Zade,↓Zadg,↓Zadh,↓Zadj,↓Zafk,↓Zafj,↓Zaey,↓Zaau,↓Zaeo,↓Zadp,↓Zaer,↓Zado,↓Zadt,↓Zadu,↓Zadv,↓Zaef,↓Zaeg,↓Zaeq,↓Zads,↓Zaev,↓Zadx,↓Zaej,↓Zaei,↓Zaek,↓Zael,↓Zaet,↓Zaec,↓Zaeb,↓Zaee,↓Zaed,↓Zaeu,↓Zaea,↓Zaeh,↓Zaen,↓Zaes,↓Zaep,↓Zady,↓Zaem,↓Zadz,↓Zaex,↓Zafq,↓Zacb,↓Zabt,↓Zaay,↓Zabv,↓Zaav,↓Zaba,↓Zabb,↓Zabc,↓Zabn,↓Zabx,↓Zabu,↓Zaaz,↓Zaby,↓Zabp,↓Zabo,↓Zabq,↓Zabw,↓Zabj,↓Zabi,↓Zabl,↓Zabk,↓Zaax,↓Zabh,↓Zabz,↓Zabm,↓Zabd,↓Zaaw,↓Zabg,↓Zabe,↓Zabr,↓Zabs,↓Zabf,↓Zafn,↓bxPut,↓Zadb,↓Zacz,↓Zadc,↓Zada,↓Zaaq,↓Zaar,↓Zaap,↓Zaao,↓Zacp,↓Zacn,↓Zacq,↓Zaco,↓Zacx,↓Zacy,↓Zafo,↓Zafp,↓Zaca,↓Zafs,↓Zacj,↓Zacg,↓Zaci,↓Zach,↓dstAt,↓Zacl,Zacd,Zacf,Zace,Zaan,eql_str,neq_str,Zaaa,Zaac,Zaab,Zaai,Zaah,Zaaj,Zafm,Zafl,mm_max,mm_min,Zaal,Zaam,Zaak,Zacm,Zafr,una_nt,una_nf,una_neg,Zaag,Zaaf,Zadm,Zadn,Zaff,Zafe,Zafc,Zafb,Zaez,Zafi,Zafg,Zacs,Zact,List.map,List.nil_append,List.cons_append,List.append_nil,↓reduceIte,Nat.reduceEqDiff,Nat.reduceLT,dec_T,dec_F,Zack,true_and,and_true,true_implies,implies_true,false_and,and_false,true_or,or_true,false_or,or_false,and_self,or_self,Zacv,Zadd,Zacr,Zacw,Zaae,Nat.add_zero,Nat.mul_one,one1,Option.bind_some,ne_eq,Int.natCast_nonneg,Int.toNat_natCast,not_true_eq_false,not_false_eq_true,Option.map_some,Option.map_none, *,lenI,ldI] | (with_reducible first | refine Zadr (by assumption) (by decide +kernel) ?_ | refine Zadq (by decide +kernel) ?_ | refine Zaew (by decide +kernel) ?_ | refine Zadw ?_))
    exact ⟨H.size,hs2,Nat.le_refl _⟩
theorem Game_runs (e:Int) (v:Value) (c:List Int) (r o:Nat) (H:Heap) (hg:Grp H) (hL:H.low ≤ H.size) (hl:SlI .i64 H v c r o) :
    ∃ v2 H' f,Runs Try.prog S (.fn 6) [.int .i64 e,v] H (.tuple ⟨[v2,.int .i64 f]⟩) H' ∧ Keep H H' ∧ (¬ Q.Prob e c → f = 2 ∧ v2 = .slice none 0 0) ∧ (Q.Prob e c → f = 0 ∧ ∃ r2,SlI .i64 H' v2 (gvs e c) r2 0 ∧ H.size ≤ r2):=by
  obtain ⟨va,vc,rfl⟩:=hl.v0;obtain ⟨H2,k2,hR2⟩:=Q.isProblem_runs hS e _ c r o H hl;have f2:=hR2.bx
  by_cases hp:Q.Prob e c
  case neg =>
    have d0:decide (Q.Prob e c) = false:=decide_eq_false hp;refine ⟨.slice none 0 0,H2,2,?_,k2,fun _ => ⟨rfl,rfl⟩,fun h => absurd h hp⟩
    suffices h:WCall Try.prog S (.fn 6) [.int .i64 e,.slice va c.length vc] H (fun u H' => u = .tuple ⟨[.slice none 0 0,.int .i64 2]⟩ ∧ H' = H2) by
      obtain ⟨_,_,hr,rfl,rfl⟩:=h; exact hr
    clear hR2 hl hp;refine call_of Try.func6 rfl (Nat.le_of_ble_eq_true rfl) (hS.no rfl _ _) ?_
    rw [Try.ntmps6,Try.results6]
    repeat' (first | (with_reducible refine Zafd (fun h => ?_) (fun h => ?_)) | (with_reducible refine Zafa (fun h => ?_) (fun h => ?_)) | (with_reducible refine Zafh (fun h => ?_) (fun h => ?_)) | simp only [↓Zadl,↓Zadf,↓Zadi,↓Zadk,↓Zaas,↓Zaat,↓Zade,↓Zadg,↓Zadh,↓Zadj,↓Zafk,↓Zafj,↓Zaey,↓Zaau,↓Zaeo,↓Zadp,↓Zaer,↓Zado,↓Zadt,↓Zadu,↓Zadv,↓Zaef,↓Zaeg,↓Zaeq,↓Zads,↓Zaev,↓Zadx,↓Zaej,↓Zaei,↓Zaek,↓Zael,↓Zaet,↓Zaec,↓Zaeb,↓Zaee,↓Zaed,↓Zaeu,↓Zaea,↓Zaeh,↓Zaen,↓Zaes,↓Zaep,↓Zady,↓Zaem,↓Zadz,↓Zaex,↓Zafq,↓Zacb,↓Zabt,↓Zaay,↓Zabv,↓Zaav,↓Zaba,↓Zabb,↓Zabc,↓Zabn,↓Zabx,↓Zabu,↓Zaaz,↓Zaby,↓Zabp,↓Zabo,↓Zabq,↓Zabw,↓Zabj,↓Zabi,↓Zabl,↓Zabk,↓Zaax,↓Zabh,↓Zabz,↓Zabm,↓Zabd,↓Zaaw,↓Zabg,↓Zabe,↓Zabr,↓Zabs,↓Zabf,↓Zafn,↓bxPut,↓Zadb,↓Zacz,↓Zadc,↓Zada,↓Zaaq,↓Zaar,↓Zaap,↓Zaao,↓Zacp,↓Zacn,↓Zacq,↓Zaco,↓Zacx,↓Zacy,↓Zafo,↓Zafp,↓Zaca,↓Zafs,↓Zacj,↓Zacg,↓Zaci,↓Zach,↓dstAt,↓Zacl,Zacd,Zacf,Zace,Zaan,eql_str,neq_str,Zaaa,Zaac,Zaab,Zaai,Zaah,Zaaj,Zafm,Zafl,mm_max,mm_min,Zaal,Zaam,Zaak,Zacm,Zafr,una_nt,una_nf,una_neg,Zaag,Zaaf,Zadm,Zadn,Zaff,Zafe,Zafc,Zafb,Zaez,Zafi,Zafg,Zacs,Zact,List.map,List.nil_append,List.cons_append,List.append_nil,↓reduceIte,Nat.reduceEqDiff,Nat.reduceLT,dec_T,dec_F,Zack,true_and,and_true,true_implies,implies_true,false_and,and_false,true_or,or_true,false_or,or_false,and_self,or_self,Zacv,Zadd,Zacr,Zacw,Zaae,Nat.add_zero,Nat.mul_one,one1,Option.bind_some,ne_eq,Int.natCast_nonneg,Int.toNat_natCast,not_true_eq_false,not_false_eq_true,Option.map_some,Option.map_none, *,argF,List.getD_cons_zero,List.getD_cons_succ,lenI,Zact] | (with_reducible first | refine Zadr (by assumption) (by decide +kernel) ?_ | refine Zadq (by decide +kernel) ?_ | refine Zaew (by decide +kernel) ?_ | refine Zadw ?_))
  have d0:decide (Q.Prob e c) = true:=decide_eq_true hp;obtain ⟨v3,r3,H3,hR3,k3,s3,z3⟩:=game_runs hS e _ c r o H2 (k2.grp hg) (k2.low hL) (hl.keep k2) hp;have f3:=hR3.bx;refine ⟨v3,H3,0,?_,k2.trans k3,fun h => absurd hp h,fun _ => ⟨rfl,r3,s3,Nat.le_trans k2.size z3⟩⟩
  suffices h:WCall Try.prog S (.fn 6) [.int .i64 e,.slice va c.length vc] H (fun u H' => u = .tuple ⟨[v3,.int .i64 0]⟩ ∧ H' = H3) by
    obtain ⟨_,_,hr,rfl,rfl⟩:=h; exact hr
  clear hR2 hR3 hl hp s3;refine call_of Try.func6 rfl (Nat.le_of_ble_eq_true rfl) (hS.no rfl _ _) ?_
  rw [Try.ntmps6,Try.results6]
  repeat' (first | (with_reducible refine Zafd (fun h => ?_) (fun h => ?_)) | (with_reducible refine Zafa (fun h => ?_) (fun h => ?_)) | (with_reducible refine Zafh (fun h => ?_) (fun h => ?_)) | simp only [↓Zadl,↓Zadf,↓Zadi,↓Zadk,↓Zaas,↓Zaat,↓Zade,↓Zadg,↓Zadh,↓Zadj,↓Zafk,↓Zafj,↓Zaey,↓Zaau,↓Zaeo,↓Zadp,↓Zaer,↓Zado,↓Zadt,↓Zadu,↓Zadv,↓Zaef,↓Zaeg,↓Zaeq,↓Zads,↓Zaev,↓Zadx,↓Zaej,↓Zaei,↓Zaek,↓Zael,↓Zaet,↓Zaec,↓Zaeb,↓Zaee,↓Zaed,↓Zaeu,↓Zaea,↓Zaeh,↓Zaen,↓Zaes,↓Zaep,↓Zady,↓Zaem,↓Zadz,↓Zaex,↓Zafq,↓Zacb,↓Zabt,↓Zaay,↓Zabv,↓Zaav,↓Zaba,↓Zabb,↓Zabc,↓Zabn,↓Zabx,↓Zabu,↓Zaaz,↓Zaby,↓Zabp,↓Zabo,↓Zabq,↓Zabw,↓Zabj,↓Zabi,↓Zabl,↓Zabk,↓Zaax,↓Zabh,↓Zabz,↓Zabm,↓Zabd,↓Zaaw,↓Zabg,↓Zabe,↓Zabr,↓Zabs,↓Zabf,↓Zafn,↓bxPut,↓Zadb,↓Zacz,↓Zadc,↓Zada,↓Zaaq,↓Zaar,↓Zaap,↓Zaao,↓Zacp,↓Zacn,↓Zacq,↓Zaco,↓Zacx,↓Zacy,↓Zafo,↓Zafp,↓Zaca,↓Zafs,↓Zacj,↓Zacg,↓Zaci,↓Zach,↓dstAt,↓Zacl,Zacd,Zacf,Zace,Zaan,eql_str,neq_str,Zaaa,Zaac,Zaab,Zaai,Zaah,Zaaj,Zafm,Zafl,mm_max,mm_min,Zaal,Zaam,Zaak,Zacm,Zafr,una_nt,una_nf,una_neg,Zaag,Zaaf,Zadm,Zadn,Zaff,Zafe,Zafc,Zafb,Zaez,Zafi,Zafg,Zacs,Zact,List.map,List.nil_append,List.cons_append,List.append_nil,↓reduceIte,Nat.reduceEqDiff,Nat.reduceLT,dec_T,dec_F,Zack,true_and,and_true,true_implies,implies_true,false_and,and_false,true_or,or_true,false_or,or_false,and_self,or_self,Zacv,Zadd,Zacr,Zacw,Zaae,Nat.add_zero,Nat.mul_one,one1,Option.bind_some,ne_eq,Int.natCast_nonneg,Int.toNat_natCast,not_true_eq_false,not_false_eq_true,Option.map_some,Option.map_none, *,argF,List.getD_cons_zero,List.getD_cons_succ,lenI,Zact] | (with_reducible first | refine Zadr (by assumption) (by decide +kernel) ?_ | refine Zadq (by decide +kernel) ?_ | refine Zaew (by decide +kernel) ?_ | refine Zadw ?_))
end Go.Proofs.Ytmpbapffjapghaa
namespace Go.Proofs.Ytmpbapffjapghaa.Q
open Go Go.AM
set_option maxRecDepth 10000

theorem sum_takeB (w:List Int) (B:Int):∀ {k:Nat},k ≤ w.length → (∀ i,i < k → 0 ≤ w.getD i 0 ∧ w.getD i 0 ≤ B) → 0 ≤ (w.take k).sum ∧ (w.take k).sum ≤ k * B
  | 0,_,_ => by simp
  | k + 1,hk,h => by
    have h1:=sum_takeB w B (k:=k) (by omega) fun i hi => h i (by omega)
    have h2:=h k (by omega)
    rw [sum_take_succ w (by omega)]
    have h3:((k + 1:Nat):Int) * B = k * B + B:=by rw [Int.natCast_add,Int.add_mul]; simp
    omega
theorem mul_bound {k n:Nat} {B:Int} (h:k ≤ n) (hB:0 ≤ B):(k:Int) * B ≤ n * B:=Int.mul_le_mul_of_nonneg_right (by omega) hB

variable {S:AM.Sys} (hS:Only S 5)
include hS

theorem Gcd_runs (x y:Int) (H:Heap) (hx:0 ≤ x) (hy:0 ≤ y) (hx2:x ≤ 9223372036854775807) (hy2:y ≤ 9223372036854775807):∃ H',Keep H H' ∧ Runs Try.prog S (.fn 52) [.int .i64 x,.int .i64 y] H (.int .i64 (Nat.gcd x.toNat y.toNat:Nat)) H':=by
  suffices h:WCall Try.prog S (.fn 52) [.int .i64 x,.int .i64 y] H (fun v H' => v = .int .i64 (Nat.gcd x.toNat y.toNat:Nat) ∧ Keep H H') by
    obtain ⟨_,H',hr,rfl,hk⟩:=h; exact ⟨H',hk,hr⟩
  refine call_of Try.func52 rfl (Nat.le_of_ble_eq_true rfl) (hS.no rfl _ _) ?_
  rw [Try.ntmps52,Try.results52]
  repeat' (first | (with_reducible refine Zafd (fun h => ?_) (fun h => ?_)) | (with_reducible refine Zafa (fun h => ?_) (fun h => ?_)) | (with_reducible refine Zafh (fun h => ?_) (fun h => ?_)) | simp only [↓Zadl,↓Zadf,↓Zadi,↓Zadk,↓Zaas,↓Zaat,↓Zade,↓Zadg,↓Zadh,↓Zadj,↓Zafk,↓Zafj,↓Zaey,↓Zaau,↓Zaeo,↓Zadp,↓Zaer,↓Zado,↓Zadt,↓Zadu,↓Zadv,↓Zaef,↓Zaeg,↓Zaeq,↓Zads,↓Zaev,↓Zadx,↓Zaej,↓Zaei,↓Zaek,↓Zael,↓Zaet,↓Zaec,↓Zaeb,↓Zaee,↓Zaed,↓Zaeu,↓Zaea,↓Zaeh,↓Zaen,↓Zaes,↓Zaep,↓Zady,↓Zaem,↓Zadz,↓Zaex,↓Zafq,↓Zacb,↓Zabt,↓Zaay,↓Zabv,↓Zaav,↓Zaba,↓Zabb,↓Zabc,↓Zabn,↓Zabx,↓Zabu,↓Zaaz,↓Zaby,↓Zabp,↓Zabo,↓Zabq,↓Zabw,↓Zabj,↓Zabi,↓Zabl,↓Zabk,↓Zaax,↓Zabh,↓Zabz,↓Zabm,↓Zabd,↓Zaaw,↓Zabg,↓Zabe,↓Zabr,↓Zabs,↓Zabf,↓Zafn,↓bxPut,↓Zadb,↓Zacz,↓Zadc,↓Zada,↓Zaaq,↓Zaar,↓Zaap,↓Zaao,↓Zacp,↓Zacn,↓Zacq,↓Zaco,↓Zacx,↓Zacy,↓Zafo,↓Zafp,↓Zaca,↓Zafs,↓Zacj,↓Zacg,↓Zaci,↓Zach,↓dstAt,↓Zacl,Zacd,Zacf,Zace,Zaan,eql_str,neq_str,Zaaa,Zaac,Zaab,Zaai,Zaah,Zaaj,Zafm,Zafl,mm_max,mm_min,Zaal,Zaam,Zaak,Zacm,Zafr,una_nt,una_nf,una_neg,Zaag,Zaaf,Zadm,Zadn,Zaff,Zafe,Zafc,Zafb,Zaez,Zafi,Zafg,Zacs,Zact,List.map,List.nil_append,List.cons_append,List.append_nil,↓reduceIte,Nat.reduceEqDiff,Nat.reduceLT,dec_T,dec_F,Zack,true_and,and_true,true_implies,implies_true,false_and,and_false,true_or,or_true,false_or,or_false,and_self,or_self,Zacv,Zadd,Zacr,Zacw,Zaae,Nat.add_zero,Nat.mul_one,one1,Option.bind_some,ne_eq,Int.natCast_nonneg,Int.toNat_natCast,not_true_eq_false,not_false_eq_true,Option.map_some,Option.map_none, *,argF,List.getD_cons_zero,List.getD_cons_succ,lenI] | (with_reducible first | refine Zadr (by assumption) (by decide +kernel) ?_ | refine Zadq (by decide +kernel) ?_ | refine Zaew (by decide +kernel) ?_ | refine Zadw ?_))
  refine sxL_of (fun m ρ H2 => ∃ a b:Int,m = b.toNat ∧ 0 ≤ a ∧ 0 ≤ b ∧ a ≤ 9223372036854775807 ∧ b ≤ 9223372036854775807 ∧ Nat.gcd a.toNat b.toNat = Nat.gcd x.toNat y.toNat ∧ Keep H H2 ∧ ρ 0 = .int .i64 a ∧ ρ 1 = .int .i64 b)
    ⟨x,y,rfl,hx,hy,hx2,hy2,rfl,Keep.refl H,rfl,rfl⟩ ?_
  rintro m ρ H2 ⟨a,b,rfl,ha,hb,ha2,hb2,hG,hK,e0,e1⟩;generalize Nat.gcd x.toNat y.toNat = G at *
  by_cases hb0:b = 0
  · subst hb0;have hG2:(G:Int) = a:=by rw [← hG,show (0:Int).toNat = 0 from rfl,Nat.gcd_zero_right]; omega
    have f1:IntKind.i64.wrap (0 - a) = 0 - a:=IntWalk.i64_in _ (by omega)
    have f2:max a (0 - a) = a:=by omega
    clear hG
    repeat' (first | (with_reducible refine Zafd (fun h => ?_) (fun h => ?_)) | (with_reducible refine Zafa (fun h => ?_) (fun h => ?_)) | (with_reducible refine Zafh (fun h => ?_) (fun h => ?_)) | simp only [↓Zadl,↓Zadf,↓Zadi,↓Zadk,↓Zaas,↓Zaat,↓Zade,↓Zadg,↓Zadh,↓Zadj,↓Zafk,↓Zafj,↓Zaey,↓Zaau,↓Zaeo,↓Zadp,↓Zaer,↓Zado,↓Zadt,↓Zadu,↓Zadv,↓Zaef,↓Zaeg,↓Zaeq,↓Zads,↓Zaev,↓Zadx,↓Zaej,↓Zaei,↓Zaek,↓Zael,↓Zaet,↓Zaec,↓Zaeb,↓Zaee,↓Zaed,↓Zaeu,↓Zaea,↓Zaeh,↓Zaen,↓Zaes,↓Zaep,↓Zady,↓Zaem,↓Zadz,↓Zaex,↓Zafq,↓Zacb,↓Zabt,↓Zaay,↓Zabv,↓Zaav,↓Zaba,↓Zabb,↓Zabc,↓Zabn,↓Zabx,↓Zabu,↓Zaaz,↓Zaby,↓Zabp,↓Zabo,↓Zabq,↓Zabw,↓Zabj,↓Zabi,↓Zabl,↓Zabk,↓Zaax,↓Zabh,↓Zabz,↓Zabm,↓Zabd,↓Zaaw,↓Zabg,↓Zabe,↓Zabr,↓Zabs,↓Zabf,↓Zafn,↓bxPut,↓Zadb,↓Zacz,↓Zadc,↓Zada,↓Zaaq,↓Zaar,↓Zaap,↓Zaao,↓Zacp,↓Zacn,↓Zacq,↓Zaco,↓Zacx,↓Zacy,↓Zafo,↓Zafp,↓Zaca,↓Zafs,↓Zacj,↓Zacg,↓Zaci,↓Zach,↓dstAt,↓Zacl,Zacd,Zacf,Zace,Zaan,eql_str,neq_str,Zaaa,Zaac,Zaab,Zaai,Zaah,Zaaj,Zafm,Zafl,mm_max,mm_min,Zaal,Zaam,Zaak,Zacm,Zafr,una_nt,una_nf,una_neg,Zaag,Zaaf,Zadm,Zadn,Zaff,Zafe,Zafc,Zafb,Zaez,Zafi,Zafg,Zacs,Zact,List.map,List.nil_append,List.cons_append,List.append_nil,↓reduceIte,Nat.reduceEqDiff,Nat.reduceLT,dec_T,dec_F,Zack,true_and,and_true,true_implies,implies_true,false_and,and_false,true_or,or_true,false_or,or_false,and_self,or_self,Zacv,Zadd,Zacr,Zacw,Zaae,Nat.add_zero,Nat.mul_one,one1,Option.bind_some,ne_eq,Int.natCast_nonneg,Int.toNat_natCast,not_true_eq_false,not_false_eq_true,Option.map_some,Option.map_none, *,lenI] | (with_reducible first | refine Zadr (by assumption) (by decide +kernel) ?_ | refine Zadq (by decide +kernel) ?_ | refine Zaew (by decide +kernel) ?_ | refine Zadw ?_))
    rw [if_neg (by omega)]
  · have hm:a.tmod b = a % b:=Int.tmod_eq_emod_of_nonneg ha;have h1:=Int.emod_nonneg a hb0;have h2:=Int.emod_lt_of_pos a (show 0 < b by omega)
    have f1:IntKind.i64.wrap (a % b) = a % b:=IntWalk.i64_in _ (by omega)
    have hg2:Nat.gcd b.toNat (a % b).toNat = G:=by
      rw [← hG,Int.toNat_emod ha hb,Nat.gcd_comm b.toNat (a.toNat % b.toNat),← Nat.gcd_rec,Nat.gcd_comm]
    repeat' (first | (with_reducible refine Zafd (fun h => ?_) (fun h => ?_)) | (with_reducible refine Zafa (fun h => ?_) (fun h => ?_)) | (with_reducible refine Zafh (fun h => ?_) (fun h => ?_)) | simp only [↓Zadl,↓Zadf,↓Zadi,↓Zadk,↓Zaas,↓Zaat,↓Zade,↓Zadg,↓Zadh,↓Zadj,↓Zafk,↓Zafj,↓Zaey,↓Zaau,↓Zaeo,↓Zadp,↓Zaer,↓Zado,↓Zadt,↓Zadu,↓Zadv,↓Zaef,↓Zaeg,↓Zaeq,↓Zads,↓Zaev,↓Zadx,↓Zaej,↓Zaei,↓Zaek,↓Zael,↓Zaet,↓Zaec,↓Zaeb,↓Zaee,↓Zaed,↓Zaeu,↓Zaea,↓Zaeh,↓Zaen,↓Zaes,↓Zaep,↓Zady,↓Zaem,↓Zadz,↓Zaex,↓Zafq,↓Zacb,↓Zabt,↓Zaay,↓Zabv,↓Zaav,↓Zaba,↓Zabb,↓Zabc,↓Zabn,↓Zabx,↓Zabu,↓Zaaz,↓Zaby,↓Zabp,↓Zabo,↓Zabq,↓Zabw,↓Zabj,↓Zabi,↓Zabl,↓Zabk,↓Zaax,↓Zabh,↓Zabz,↓Zabm,↓Zabd,↓Zaaw,↓Zabg,↓Zabe,↓Zabr,↓Zabs,↓Zabf,↓Zafn,↓bxPut,↓Zadb,↓Zacz,↓Zadc,↓Zada,↓Zaaq,↓Zaar,↓Zaap,↓Zaao,↓Zacp,↓Zacn,↓Zacq,↓Zaco,↓Zacx,↓Zacy,↓Zafo,↓Zafp,↓Zaca,↓Zafs,↓Zacj,↓Zacg,↓Zaci,↓Zach,↓dstAt,↓Zacl,Zacd,Zacf,Zace,Zaan,eql_str,neq_str,Zaaa,Zaac,Zaab,Zaai,Zaah,Zaaj,Zafm,Zafl,mm_max,mm_min,Zaal,Zaam,Zaak,Zacm,Zafr,una_nt,una_nf,una_neg,Zaag,Zaaf,Zadm,Zadn,Zaff,Zafe,Zafc,Zafb,Zaez,Zafi,Zafg,Zacs,Zact,List.map,List.nil_append,List.cons_append,List.append_nil,↓reduceIte,Nat.reduceEqDiff,Nat.reduceLT,dec_T,dec_F,Zack,true_and,and_true,true_implies,implies_true,false_and,and_false,true_or,or_true,false_or,or_false,and_self,or_self,Zacv,Zadd,Zacr,Zacw,Zaae,Nat.add_zero,Nat.mul_one,one1,Option.bind_some,ne_eq,Int.natCast_nonneg,Int.toNat_natCast,not_true_eq_false,not_false_eq_true,Option.map_some,Option.map_none, *,lenI] | (with_reducible first | refine Zadr (by assumption) (by decide +kernel) ?_ | refine Zadq (by decide +kernel) ?_ | refine Zaew (by decide +kernel) ?_ | refine Zadw ?_))
    refine ⟨_,?_,b,a % b,rfl,hb,h1,hb2,by omega,hg2,?_,rfl,?_⟩
    · omega
    · have z1:min H.low H.size ≤ H2.size:=Nat.le_trans (Nat.min_le_right _ _) hK.size;exact { size:=hK.size,low:=fun _ => Nat.min_le_right _ _,lo:=by repeat' (first | exact hK.lo | exact z1 | refine Nat.le_min.2 ⟨?_,?_⟩),row:=hK.row,grp:=hK.grp,mem:=hK.mem }
    · rfl

theorem Problem_runs (e:Int) (v:Value) (w:List Int) (r o:Nat) (H:Heap) (hL:H.low ≤ H.size) (hl:SlI .i64 H v w r o) :
    Runs Try.prog S (.fn 16) [.int .i64 e,v] H (.bool (decide (Prob e w))) H:=by
  suffices h:WCall Try.prog S (.fn 16) [.int .i64 e,v] H (fun v H' => v = .bool (decide (Prob e w)) ∧ H' = H) by
    obtain ⟨_,_,hr,rfl,rfl⟩:=h; exact hr
  obtain ⟨a,cap,rfl⟩:=hl.v0;refine call_of Try.func16 rfl (Nat.le_of_ble_eq_true rfl) (hS.no rfl _ _) ?_
  rw [Try.ntmps16,Try.results16]
  repeat' (first | (with_reducible refine Zafd (fun h => ?_) (fun h => ?_)) | (with_reducible refine Zafa (fun h => ?_) (fun h => ?_)) | (with_reducible refine Zafh (fun h => ?_) (fun h => ?_)) | simp only [↓Zadl,↓Zadf,↓Zadi,↓Zadk,↓Zaas,↓Zaat,↓Zade,↓Zadg,↓Zadh,↓Zadj,↓Zafk,↓Zafj,↓Zaey,↓Zaau,↓Zaeo,↓Zadp,↓Zaer,↓Zado,↓Zadt,↓Zadu,↓Zadv,↓Zaef,↓Zaeg,↓Zaeq,↓Zads,↓Zaev,↓Zadx,↓Zaej,↓Zaei,↓Zaek,↓Zael,↓Zaet,↓Zaec,↓Zaeb,↓Zaee,↓Zaed,↓Zaeu,↓Zaea,↓Zaeh,↓Zaen,↓Zaes,↓Zaep,↓Zady,↓Zaem,↓Zadz,↓Zaex,↓Zafq,↓Zacb,↓Zabt,↓Zaay,↓Zabv,↓Zaav,↓Zaba,↓Zabb,↓Zabc,↓Zabn,↓Zabx,↓Zabu,↓Zaaz,↓Zaby,↓Zabp,↓Zabo,↓Zabq,↓Zabw,↓Zabj,↓Zabi,↓Zabl,↓Zabk,↓Zaax,↓Zabh,↓Zabz,↓Zabm,↓Zabd,↓Zaaw,↓Zabg,↓Zabe,↓Zabr,↓Zabs,↓Zabf,↓Zafn,↓bxPut,↓Zadb,↓Zacz,↓Zadc,↓Zada,↓Zaaq,↓Zaar,↓Zaap,↓Zaao,↓Zacp,↓Zacn,↓Zacq,↓Zaco,↓Zacx,↓Zacy,↓Zafo,↓Zafp,↓Zaca,↓Zafs,↓Zacj,↓Zacg,↓Zaci,↓Zach,↓dstAt,↓Zacl,Zacd,Zacf,Zace,Zaan,eql_str,neq_str,Zaaa,Zaac,Zaab,Zaai,Zaah,Zaaj,Zafm,Zafl,mm_max,mm_min,Zaal,Zaam,Zaak,Zacm,Zafr,una_nt,una_nf,una_neg,Zaag,Zaaf,Zadm,Zadn,Zaff,Zafe,Zafc,Zafb,Zaez,Zafi,Zafg,Zacs,Zact,List.map,List.nil_append,List.cons_append,List.append_nil,↓reduceIte,Nat.reduceEqDiff,Nat.reduceLT,dec_T,dec_F,Zack,true_and,and_true,true_implies,implies_true,false_and,and_false,true_or,or_true,false_or,or_false,and_self,or_self,Zacv,Zadd,Zacr,Zacw,Zaae,Nat.add_zero,Nat.mul_one,one1,Option.bind_some,ne_eq,Int.natCast_nonneg,Int.toNat_natCast,not_true_eq_false,not_false_eq_true,Option.map_some,Option.map_none, *,argF,List.getD_cons_zero,List.getD_cons_succ,lenI] | (with_reducible first | refine Zadr (by assumption) (by decide +kernel) ?_ | refine Zadq (by decide +kernel) ?_ | refine Zaew (by decide +kernel) ?_ | refine Zadw ?_))
  · exact bool_f fun hh => by have:=hh.2.1; omega
  · have hn:w.length ≤ 7 ∧ 1 ≤ w.length:=by omega
    have he:0 ≤ e ∧ e ≤ 100000:=by omega
    refine sxL_of (fun m ρ H1 => ∃ k:Nat,m = w.length - k ∧ k ≤ w.length ∧ H1 = H ∧ (∀ i,i < k → 0 ≤ w.getD i 0 ∧ w.getD i 0 ≤ 100000) ∧ ρ 0 = .int .i64 e ∧ ρ 1 = .slice a w.length cap ∧ ρ 5 = .int .i64 (w.take k).sum ∧ ρ 6 = .int .i64 k)
      ⟨0,rfl,Nat.zero_le _,rfl,fun i hi => absurd hi (Nat.not_lt_zero i),rfl,rfl,rfl,rfl⟩ ?_
    clear h;clear h;clear h;clear h;rintro m ρ H1 ⟨k,rfl,hk,rfl,hall,e0,e1,e5,e6⟩
    by_cases hlt:k < w.length
    · have hix:=SlI_ix hl hlt;have hrd:=(hl.rdI hlt).1;have hw:=wrap_succ hlt hl.ml;have hlt':(k:Int) < (w.length:Int):=by omega
      by_cases hx:0 ≤ w.getD k 0 ∧ w.getD k 0 ≤ 100000
      · have hall2:∀ i,i < k + 1 → 0 ≤ w.getD i 0 ∧ w.getD i 0 ≤ 100000:=fun i hi => by
          rcases Nat.lt_or_ge i k with h | h
          · exact hall i h
          · rw [show i = k by omega]; exact hx
        have g1:=sum_take_succ w hlt;have g2:=sum_takeB w 100000 (k:=k + 1) hlt hall2;have g4:=mul_bound (B:=100000) (show k + 1 ≤ 7 by omega) (by omega)
        have g3:IntKind.i64.wrap ((w.take k).sum + w.getD k 0) = (w.take (k + 1)).sum:=by rw [← g1]; exact IntWalk.i64_in _ (by omega)
        have x1:¬ w.getD k 0 < 0:=by omega
        have x2:¬ 100000 < w.getD k 0:=by omega
        clear hl g1 g2 g4
        repeat' (first | (with_reducible refine Zafd (fun h => ?_) (fun h => ?_)) | (with_reducible refine Zafa (fun h => ?_) (fun h => ?_)) | (with_reducible refine Zafh (fun h => ?_) (fun h => ?_)) | simp only [↓Zadl,↓Zadf,↓Zadi,↓Zadk,↓Zaas,↓Zaat,↓Zade,↓Zadg,↓Zadh,↓Zadj,↓Zafk,↓Zafj,↓Zaey,↓Zaau,↓Zaeo,↓Zadp,↓Zaer,↓Zado,↓Zadt,↓Zadu,↓Zadv,↓Zaef,↓Zaeg,↓Zaeq,↓Zads,↓Zaev,↓Zadx,↓Zaej,↓Zaei,↓Zaek,↓Zael,↓Zaet,↓Zaec,↓Zaeb,↓Zaee,↓Zaed,↓Zaeu,↓Zaea,↓Zaeh,↓Zaen,↓Zaes,↓Zaep,↓Zady,↓Zaem,↓Zadz,↓Zaex,↓Zafq,↓Zacb,↓Zabt,↓Zaay,↓Zabv,↓Zaav,↓Zaba,↓Zabb,↓Zabc,↓Zabn,↓Zabx,↓Zabu,↓Zaaz,↓Zaby,↓Zabp,↓Zabo,↓Zabq,↓Zabw,↓Zabj,↓Zabi,↓Zabl,↓Zabk,↓Zaax,↓Zabh,↓Zabz,↓Zabm,↓Zabd,↓Zaaw,↓Zabg,↓Zabe,↓Zabr,↓Zabs,↓Zabf,↓Zafn,↓bxPut,↓Zadb,↓Zacz,↓Zadc,↓Zada,↓Zaaq,↓Zaar,↓Zaap,↓Zaao,↓Zacp,↓Zacn,↓Zacq,↓Zaco,↓Zacx,↓Zacy,↓Zafo,↓Zafp,↓Zaca,↓Zafs,↓Zacj,↓Zacg,↓Zaci,↓Zach,↓dstAt,↓Zacl,Zacd,Zacf,Zace,Zaan,eql_str,neq_str,Zaaa,Zaac,Zaab,Zaai,Zaah,Zaaj,Zafm,Zafl,mm_max,mm_min,Zaal,Zaam,Zaak,Zacm,Zafr,una_nt,una_nf,una_neg,Zaag,Zaaf,Zadm,Zadn,Zaff,Zafe,Zafc,Zafb,Zaez,Zafi,Zafg,Zacs,Zact,List.map,List.nil_append,List.cons_append,List.append_nil,↓reduceIte,Nat.reduceEqDiff,Nat.reduceLT,dec_T,dec_F,Zack,true_and,and_true,true_implies,implies_true,false_and,and_false,true_or,or_true,false_or,or_false,and_self,or_self,Zacv,Zadd,Zacr,Zacw,Zaae,Nat.add_zero,Nat.mul_one,one1,Option.bind_some,ne_eq,Int.natCast_nonneg,Int.toNat_natCast,not_true_eq_false,not_false_eq_true,Option.map_some,Option.map_none, *,lenI,ldI] | (with_reducible first | refine Zadr (by assumption) (by decide +kernel) ?_ | refine Zadq (by decide +kernel) ?_ | refine Zaew (by decide +kernel) ?_ | refine Zadw ?_))
        exact ⟨_,by omega,k + 1,rfl,by omega,hall2,rfl,rfl⟩
      · have hf:¬ Prob e w:=fun hh => hx (hh.2.2.1 _ (getD_mem (d:=0) hlt))
        clear hl
        by_cases x1:w.getD k 0 < 0
        · repeat' (first | (with_reducible refine Zafd (fun h => ?_) (fun h => ?_)) | (with_reducible refine Zafa (fun h => ?_) (fun h => ?_)) | (with_reducible refine Zafh (fun h => ?_) (fun h => ?_)) | simp only [↓Zadl,↓Zadf,↓Zadi,↓Zadk,↓Zaas,↓Zaat,↓Zade,↓Zadg,↓Zadh,↓Zadj,↓Zafk,↓Zafj,↓Zaey,↓Zaau,↓Zaeo,↓Zadp,↓Zaer,↓Zado,↓Zadt,↓Zadu,↓Zadv,↓Zaef,↓Zaeg,↓Zaeq,↓Zads,↓Zaev,↓Zadx,↓Zaej,↓Zaei,↓Zaek,↓Zael,↓Zaet,↓Zaec,↓Zaeb,↓Zaee,↓Zaed,↓Zaeu,↓Zaea,↓Zaeh,↓Zaen,↓Zaes,↓Zaep,↓Zady,↓Zaem,↓Zadz,↓Zaex,↓Zafq,↓Zacb,↓Zabt,↓Zaay,↓Zabv,↓Zaav,↓Zaba,↓Zabb,↓Zabc,↓Zabn,↓Zabx,↓Zabu,↓Zaaz,↓Zaby,↓Zabp,↓Zabo,↓Zabq,↓Zabw,↓Zabj,↓Zabi,↓Zabl,↓Zabk,↓Zaax,↓Zabh,↓Zabz,↓Zabm,↓Zabd,↓Zaaw,↓Zabg,↓Zabe,↓Zabr,↓Zabs,↓Zabf,↓Zafn,↓bxPut,↓Zadb,↓Zacz,↓Zadc,↓Zada,↓Zaaq,↓Zaar,↓Zaap,↓Zaao,↓Zacp,↓Zacn,↓Zacq,↓Zaco,↓Zacx,↓Zacy,↓Zafo,↓Zafp,↓Zaca,↓Zafs,↓Zacj,↓Zacg,↓Zaci,↓Zach,↓dstAt,↓Zacl,Zacd,Zacf,Zace,Zaan,eql_str,neq_str,Zaaa,Zaac,Zaab,Zaai,Zaah,Zaaj,Zafm,Zafl,mm_max,mm_min,Zaal,Zaam,Zaak,Zacm,Zafr,una_nt,una_nf,una_neg,Zaag,Zaaf,Zadm,Zadn,Zaff,Zafe,Zafc,Zafb,Zaez,Zafi,Zafg,Zacs,Zact,List.map,List.nil_append,List.cons_append,List.append_nil,↓reduceIte,Nat.reduceEqDiff,Nat.reduceLT,dec_T,dec_F,Zack,true_and,and_true,true_implies,implies_true,false_and,and_false,true_or,or_true,false_or,or_false,and_self,or_self,Zacv,Zadd,Zacr,Zacw,Zaae,Nat.add_zero,Nat.mul_one,one1,Option.bind_some,ne_eq,Int.natCast_nonneg,Int.toNat_natCast,not_true_eq_false,not_false_eq_true,Option.map_some,Option.map_none, *,lenI,ldI] | (with_reducible first | refine Zadr (by assumption) (by decide +kernel) ?_ | refine Zadq (by decide +kernel) ?_ | refine Zaew (by decide +kernel) ?_ | refine Zadw ?_))
          all_goals first | exact bool_f hf | skip
        · have x2:100000 < w.getD k 0:=by omega
          repeat' (first | (with_reducible refine Zafd (fun h => ?_) (fun h => ?_)) | (with_reducible refine Zafa (fun h => ?_) (fun h => ?_)) | (with_reducible refine Zafh (fun h => ?_) (fun h => ?_)) | simp only [↓Zadl,↓Zadf,↓Zadi,↓Zadk,↓Zaas,↓Zaat,↓Zade,↓Zadg,↓Zadh,↓Zadj,↓Zafk,↓Zafj,↓Zaey,↓Zaau,↓Zaeo,↓Zadp,↓Zaer,↓Zado,↓Zadt,↓Zadu,↓Zadv,↓Zaef,↓Zaeg,↓Zaeq,↓Zads,↓Zaev,↓Zadx,↓Zaej,↓Zaei,↓Zaek,↓Zael,↓Zaet,↓Zaec,↓Zaeb,↓Zaee,↓Zaed,↓Zaeu,↓Zaea,↓Zaeh,↓Zaen,↓Zaes,↓Zaep,↓Zady,↓Zaem,↓Zadz,↓Zaex,↓Zafq,↓Zacb,↓Zabt,↓Zaay,↓Zabv,↓Zaav,↓Zaba,↓Zabb,↓Zabc,↓Zabn,↓Zabx,↓Zabu,↓Zaaz,↓Zaby,↓Zabp,↓Zabo,↓Zabq,↓Zabw,↓Zabj,↓Zabi,↓Zabl,↓Zabk,↓Zaax,↓Zabh,↓Zabz,↓Zabm,↓Zabd,↓Zaaw,↓Zabg,↓Zabe,↓Zabr,↓Zabs,↓Zabf,↓Zafn,↓bxPut,↓Zadb,↓Zacz,↓Zadc,↓Zada,↓Zaaq,↓Zaar,↓Zaap,↓Zaao,↓Zacp,↓Zacn,↓Zacq,↓Zaco,↓Zacx,↓Zacy,↓Zafo,↓Zafp,↓Zaca,↓Zafs,↓Zacj,↓Zacg,↓Zaci,↓Zach,↓dstAt,↓Zacl,Zacd,Zacf,Zace,Zaan,eql_str,neq_str,Zaaa,Zaac,Zaab,Zaai,Zaah,Zaaj,Zafm,Zafl,mm_max,mm_min,Zaal,Zaam,Zaak,Zacm,Zafr,una_nt,una_nf,una_neg,Zaag,Zaaf,Zadm,Zadn,Zaff,Zafe,Zafc,Zafb,Zaez,Zafi,Zafg,Zacs,Zact,List.map,List.nil_append,List.cons_append,List.append_nil,↓reduceIte,Nat.reduceEqDiff,Nat.reduceLT,dec_T,dec_F,Zack,true_and,and_true,true_implies,implies_true,false_and,and_false,true_or,or_true,false_or,or_false,and_self,or_self,Zacv,Zadd,Zacr,Zacw,Zaae,Nat.add_zero,Nat.mul_one,one1,Option.bind_some,ne_eq,Int.natCast_nonneg,Int.toNat_natCast,not_true_eq_false,not_false_eq_true,Option.map_some,Option.map_none, *,lenI,ldI] | (with_reducible first | refine Zadr (by assumption) (by decide +kernel) ?_ | refine Zadq (by decide +kernel) ?_ | refine Zaew (by decide +kernel) ?_ | refine Zadw ?_))
          all_goals first | exact bool_f hf | skip
    · have hlt':¬ (k:Int) < (w.length:Int):=by omega
      have g:w.take k = w:=List.take_of_length_le (by omega)
      have hq:∀ x ∈ w,0 ≤ x ∧ x ≤ 100000:=all_of (d:=0) fun i hi => hall i (by omega)
      rw [g] at e5;clear hl
      repeat' (first | (with_reducible refine Zafd (fun h => ?_) (fun h => ?_)) | (with_reducible refine Zafa (fun h => ?_) (fun h => ?_)) | (with_reducible refine Zafh (fun h => ?_) (fun h => ?_)) | simp only [↓Zadl,↓Zadf,↓Zadi,↓Zadk,↓Zaas,↓Zaat,↓Zade,↓Zadg,↓Zadh,↓Zadj,↓Zafk,↓Zafj,↓Zaey,↓Zaau,↓Zaeo,↓Zadp,↓Zaer,↓Zado,↓Zadt,↓Zadu,↓Zadv,↓Zaef,↓Zaeg,↓Zaeq,↓Zads,↓Zaev,↓Zadx,↓Zaej,↓Zaei,↓Zaek,↓Zael,↓Zaet,↓Zaec,↓Zaeb,↓Zaee,↓Zaed,↓Zaeu,↓Zaea,↓Zaeh,↓Zaen,↓Zaes,↓Zaep,↓Zady,↓Zaem,↓Zadz,↓Zaex,↓Zafq,↓Zacb,↓Zabt,↓Zaay,↓Zabv,↓Zaav,↓Zaba,↓Zabb,↓Zabc,↓Zabn,↓Zabx,↓Zabu,↓Zaaz,↓Zaby,↓Zabp,↓Zabo,↓Zabq,↓Zabw,↓Zabj,↓Zabi,↓Zabl,↓Zabk,↓Zaax,↓Zabh,↓Zabz,↓Zabm,↓Zabd,↓Zaaw,↓Zabg,↓Zabe,↓Zabr,↓Zabs,↓Zabf,↓Zafn,↓bxPut,↓Zadb,↓Zacz,↓Zadc,↓Zada,↓Zaaq,↓Zaar,↓Zaap,↓Zaao,↓Zacp,↓Zacn,↓Zacq,↓Zaco,↓Zacx,↓Zacy,↓Zafo,↓Zafp,↓Zaca,↓Zafs,↓Zacj,↓Zacg,↓Zaci,↓Zach,↓dstAt,↓Zacl,Zacd,Zacf,Zace,Zaan,eql_str,neq_str,Zaaa,Zaac,Zaab,Zaai,Zaah,Zaaj,Zafm,Zafl,mm_max,mm_min,Zaal,Zaam,Zaak,Zacm,Zafr,una_nt,una_nf,una_neg,Zaag,Zaaf,Zadm,Zadn,Zaff,Zafe,Zafc,Zafb,Zaez,Zafi,Zafg,Zacs,Zact,List.map,List.nil_append,List.cons_append,List.append_nil,↓reduceIte,Nat.reduceEqDiff,Nat.reduceLT,dec_T,dec_F,Zack,true_and,and_true,true_implies,implies_true,false_and,and_false,true_or,or_true,false_or,or_false,and_self,or_self,Zacv,Zadd,Zacr,Zacw,Zaae,Nat.add_zero,Nat.mul_one,one1,Option.bind_some,ne_eq,Int.natCast_nonneg,Int.toNat_natCast,not_true_eq_false,not_false_eq_true,Option.map_some,Option.map_none, *,lenI,ldI] | (with_reducible first | refine Zadr (by assumption) (by decide +kernel) ?_ | refine Zadq (by decide +kernel) ?_ | refine Zaew (by decide +kernel) ?_ | refine Zadw ?_))
      exact bool_d ⟨fun hh => ⟨he,by omega,hq,hh⟩,fun hh => hh.2.2.2⟩
  · exact bool_f fun hh => by have:=hh.2.1; omega
  · exact bool_f fun hh => by have:=hh.1; omega
  · exact bool_f fun hh => by have:=hh.1; omega

theorem Lowest_runs (v:Value) (w:List Int) (d:Int) (r o:Nat) (H:Heap) (hL:H.low ≤ H.size) (hl:SlI .i64 H v w r o) (hp:∀ x ∈ w,0 ≤ x) (hd:0 < d ∧ d ≤ 9223372036854775807):∃ H',Keep H H' ∧ Runs Try.prog S (.fn 34) [.agg ⟨[v,.int .i64 d]⟩] H (.bool (decide (gcdAll d w = 1))) H':=by
  suffices h:WCall Try.prog S (.fn 34) [.agg ⟨[v,.int .i64 d]⟩] H (fun v H' => v = .bool (decide (gcdAll d w = 1)) ∧ Keep H H') by
    obtain ⟨_,H',hr,rfl,hk⟩:=h; exact ⟨H',hk,hr⟩
  obtain ⟨a,cap,rfl⟩:=hl.v0;obtain ⟨H1,e1,hK1,hz1,rd2,rd0,rd1⟩:=boxP H (.slice a w.length cap) (.int .i64 d);refine call_of Try.func34 rfl (Nat.le_of_ble_eq_true rfl) (hS.no rfl _ _) ?_
  rw [Try.ntmps34,Try.results34]
  repeat' (first | (with_reducible refine Zafd (fun h => ?_) (fun h => ?_)) | (with_reducible refine Zafa (fun h => ?_) (fun h => ?_)) | (with_reducible refine Zafh (fun h => ?_) (fun h => ?_)) | simp only [↓Zadl,↓Zadf,↓Zadi,↓Zadk,↓Zaas,↓Zaat,↓Zade,↓Zadg,↓Zadh,↓Zadj,↓Zafk,↓Zafj,↓Zaey,↓Zaau,↓Zaeo,↓Zadp,↓Zaer,↓Zado,↓Zadt,↓Zadu,↓Zadv,↓Zaef,↓Zaeg,↓Zaeq,↓Zads,↓Zaev,↓Zadx,↓Zaej,↓Zaei,↓Zaek,↓Zael,↓Zaet,↓Zaec,↓Zaeb,↓Zaee,↓Zaed,↓Zaeu,↓Zaea,↓Zaeh,↓Zaen,↓Zaes,↓Zaep,↓Zady,↓Zaem,↓Zadz,↓Zaex,↓Zafq,↓Zacb,↓Zabt,↓Zaay,↓Zabv,↓Zaav,↓Zaba,↓Zabb,↓Zabc,↓Zabn,↓Zabx,↓Zabu,↓Zaaz,↓Zaby,↓Zabp,↓Zabo,↓Zabq,↓Zabw,↓Zabj,↓Zabi,↓Zabl,↓Zabk,↓Zaax,↓Zabh,↓Zabz,↓Zabm,↓Zabd,↓Zaaw,↓Zabg,↓Zabe,↓Zabr,↓Zabs,↓Zabf,↓Zafn,↓bxPut,↓Zadb,↓Zacz,↓Zadc,↓Zada,↓Zaaq,↓Zaar,↓Zaap,↓Zaao,↓Zacp,↓Zacn,↓Zacq,↓Zaco,↓Zacx,↓Zacy,↓Zafo,↓Zafp,↓Zaca,↓Zafs,↓Zacj,↓Zacg,↓Zaci,↓Zach,↓dstAt,↓Zacl,Zacd,Zacf,Zace,Zaan,eql_str,neq_str,Zaaa,Zaac,Zaab,Zaai,Zaah,Zaaj,Zafm,Zafl,mm_max,mm_min,Zaal,Zaam,Zaak,Zacm,Zafr,una_nt,una_nf,una_neg,Zaag,Zaaf,Zadm,Zadn,Zaff,Zafe,Zafc,Zafb,Zaez,Zafi,Zafg,Zacs,Zact,List.map,List.nil_append,List.cons_append,List.append_nil,↓reduceIte,Nat.reduceEqDiff,Nat.reduceLT,dec_T,dec_F,Zack,true_and,and_true,true_implies,implies_true,false_and,and_false,true_or,or_true,false_or,or_false,and_self,or_self,Zacv,Zadd,Zacr,Zacw,Zaae,Nat.add_zero,Nat.mul_one,one1,Option.bind_some,ne_eq,Int.natCast_nonneg,Int.toNat_natCast,not_true_eq_false,not_false_eq_true,Option.map_some,Option.map_none, *,argF,List.getD_cons_zero,List.getD_cons_succ,lenI,cells_agg,fldP0,fldP1,ldI,ldIs] | (with_reducible first | refine Zadr (by assumption) (by decide +kernel) ?_ | refine Zadq (by decide +kernel) ?_ | refine Zaew (by decide +kernel) ?_ | refine Zadw ?_))
  refine sxL_of (fun m ρ H2 => ∃ k:Nat,m = w.length - k ∧ k ≤ w.length ∧ Keep H1 H2 ∧ ρ 1 = .pointer (some ⟨H.size,0,none⟩) ∧ ρ 3 = .int .i64 (gcdAll d (w.take k)) ∧ ρ 4 = .int .i64 k)
    ⟨0,rfl,Nat.zero_le _,Keep.refl _,rfl,rfl,rfl⟩ ?_
  clear e1 rd1 rd2;rintro m ρ H2 ⟨k,rfl,hk,hK,e1,e3,e4⟩;have q0:=hK.read hz1 rd0
  by_cases hlt:k < w.length
  · have hl2:=(hl.keep hK1).keep hK;have hix:=SlI_ix hl2 hlt;have hrd:=(hl2.rdI hlt).1;have hw:=wrap_succ hlt hl.ml;have hlt':(k:Int) < (w.length:Int):=by omega
    have g1:=gcdAll_take d w hlt;have g2:=gcdAll_pos d (w.take k) hd.1;have g3:=hp _ (getD_mem (d:=0) hlt);have g4:w.getD k 0 ≤ 9223372036854775807:=by have:=hl.rng k; have h1:IntKind.i64.max = 9223372036854775807:=rfl; omega
    have hob:=Gcd_runs hS (gcdAll d (w.take k)) (w.getD k 0) H2 (by omega) g3 (by omega) g4
    obtain ⟨H3,hK3,hR3⟩:=hob;rw [← g1] at hR3;have hb3:=hR3.bx;have hK4:=hK.trans hK3;clear hl hl2 hR3 g1 g2 g3 g4
    repeat' (first | (with_reducible refine Zafd (fun h => ?_) (fun h => ?_)) | (with_reducible refine Zafa (fun h => ?_) (fun h => ?_)) | (with_reducible refine Zafh (fun h => ?_) (fun h => ?_)) | simp only [↓Zadl,↓Zadf,↓Zadi,↓Zadk,↓Zaas,↓Zaat,↓Zade,↓Zadg,↓Zadh,↓Zadj,↓Zafk,↓Zafj,↓Zaey,↓Zaau,↓Zaeo,↓Zadp,↓Zaer,↓Zado,↓Zadt,↓Zadu,↓Zadv,↓Zaef,↓Zaeg,↓Zaeq,↓Zads,↓Zaev,↓Zadx,↓Zaej,↓Zaei,↓Zaek,↓Zael,↓Zaet,↓Zaec,↓Zaeb,↓Zaee,↓Zaed,↓Zaeu,↓Zaea,↓Zaeh,↓Zaen,↓Zaes,↓Zaep,↓Zady,↓Zaem,↓Zadz,↓Zaex,↓Zafq,↓Zacb,↓Zabt,↓Zaay,↓Zabv,↓Zaav,↓Zaba,↓Zabb,↓Zabc,↓Zabn,↓Zabx,↓Zabu,↓Zaaz,↓Zaby,↓Zabp,↓Zabo,↓Zabq,↓Zabw,↓Zabj,↓Zabi,↓Zabl,↓Zabk,↓Zaax,↓Zabh,↓Zabz,↓Zabm,↓Zabd,↓Zaaw,↓Zabg,↓Zabe,↓Zabr,↓Zabs,↓Zabf,↓Zafn,↓bxPut,↓Zadb,↓Zacz,↓Zadc,↓Zada,↓Zaaq,↓Zaar,↓Zaap,↓Zaao,↓Zacp,↓Zacn,↓Zacq,↓Zaco,↓Zacx,↓Zacy,↓Zafo,↓Zafp,↓Zaca,↓Zafs,↓Zacj,↓Zacg,↓Zaci,↓Zach,↓dstAt,↓Zacl,Zacd,Zacf,Zace,Zaan,eql_str,neq_str,Zaaa,Zaac,Zaab,Zaai,Zaah,Zaaj,Zafm,Zafl,mm_max,mm_min,Zaal,Zaam,Zaak,Zacm,Zafr,una_nt,una_nf,una_neg,Zaag,Zaaf,Zadm,Zadn,Zaff,Zafe,Zafc,Zafb,Zaez,Zafi,Zafg,Zacs,Zact,List.map,List.nil_append,List.cons_append,List.append_nil,↓reduceIte,Nat.reduceEqDiff,Nat.reduceLT,dec_T,dec_F,Zack,true_and,and_true,true_implies,implies_true,false_and,and_false,true_or,or_true,false_or,or_false,and_self,or_self,Zacv,Zadd,Zacr,Zacw,Zaae,Nat.add_zero,Nat.mul_one,one1,Option.bind_some,ne_eq,Int.natCast_nonneg,Int.toNat_natCast,not_true_eq_false,not_false_eq_true,Option.map_some,Option.map_none, *,lenI,ldI,ldIs,fldP0,fldP1] | (with_reducible first | refine Zadr (by assumption) (by decide +kernel) ?_ | refine Zadq (by decide +kernel) ?_ | refine Zaew (by decide +kernel) ?_ | refine Zadw ?_))
    exact ⟨_,by omega,k + 1,rfl,by omega,rfl,rfl⟩
  · have hlt':¬ (k:Int) < (w.length:Int):=by omega
    have g:w.take k = w:=List.take_of_length_le (by omega)
    rw [g] at e3;have hK4:=hK1.trans hK;clear hl
    repeat' (first | (with_reducible refine Zafd (fun h => ?_) (fun h => ?_)) | (with_reducible refine Zafa (fun h => ?_) (fun h => ?_)) | (with_reducible refine Zafh (fun h => ?_) (fun h => ?_)) | simp only [↓Zadl,↓Zadf,↓Zadi,↓Zadk,↓Zaas,↓Zaat,↓Zade,↓Zadg,↓Zadh,↓Zadj,↓Zafk,↓Zafj,↓Zaey,↓Zaau,↓Zaeo,↓Zadp,↓Zaer,↓Zado,↓Zadt,↓Zadu,↓Zadv,↓Zaef,↓Zaeg,↓Zaeq,↓Zads,↓Zaev,↓Zadx,↓Zaej,↓Zaei,↓Zaek,↓Zael,↓Zaet,↓Zaec,↓Zaeb,↓Zaee,↓Zaed,↓Zaeu,↓Zaea,↓Zaeh,↓Zaen,↓Zaes,↓Zaep,↓Zady,↓Zaem,↓Zadz,↓Zaex,↓Zafq,↓Zacb,↓Zabt,↓Zaay,↓Zabv,↓Zaav,↓Zaba,↓Zabb,↓Zabc,↓Zabn,↓Zabx,↓Zabu,↓Zaaz,↓Zaby,↓Zabp,↓Zabo,↓Zabq,↓Zabw,↓Zabj,↓Zabi,↓Zabl,↓Zabk,↓Zaax,↓Zabh,↓Zabz,↓Zabm,↓Zabd,↓Zaaw,↓Zabg,↓Zabe,↓Zabr,↓Zabs,↓Zabf,↓Zafn,↓bxPut,↓Zadb,↓Zacz,↓Zadc,↓Zada,↓Zaaq,↓Zaar,↓Zaap,↓Zaao,↓Zacp,↓Zacn,↓Zacq,↓Zaco,↓Zacx,↓Zacy,↓Zafo,↓Zafp,↓Zaca,↓Zafs,↓Zacj,↓Zacg,↓Zaci,↓Zach,↓dstAt,↓Zacl,Zacd,Zacf,Zace,Zaan,eql_str,neq_str,Zaaa,Zaac,Zaab,Zaai,Zaah,Zaaj,Zafm,Zafl,mm_max,mm_min,Zaal,Zaam,Zaak,Zacm,Zafr,una_nt,una_nf,una_neg,Zaag,Zaaf,Zadm,Zadn,Zaff,Zafe,Zafc,Zafb,Zaez,Zafi,Zafg,Zacs,Zact,List.map,List.nil_append,List.cons_append,List.append_nil,↓reduceIte,Nat.reduceEqDiff,Nat.reduceLT,dec_T,dec_F,Zack,true_and,and_true,true_implies,implies_true,false_and,and_false,true_or,or_true,false_or,or_false,and_self,or_self,Zacv,Zadd,Zacr,Zacw,Zaae,Nat.add_zero,Nat.mul_one,one1,Option.bind_some,ne_eq,Int.natCast_nonneg,Int.toNat_natCast,not_true_eq_false,not_false_eq_true,Option.map_some,Option.map_none, *,lenI,ldI,ldIs,fldP0,fldP1] | (with_reducible first | refine Zadr (by assumption) (by decide +kernel) ?_ | refine Zadq (by decide +kernel) ?_ | refine Zaew (by decide +kernel) ?_ | refine Zadw ?_))

theorem IsShares_runs (e:Int) (v v2:Value) (c w:List Int) (d:Int) (r o r2 o2:Nat) (H:Heap) (hL:H.low ≤ H.size) (hc:SlI .i64 H v c r o) (hl:SlI .i64 H v2 w r2 o2) (hP:Prob e c) :
    ∃ H',Keep H H' ∧ Runs Try.prog S (.fn 19) [.int .i64 e,v,.agg ⟨[v2,.int .i64 d]⟩] H (.bool (decide (Shr e c w d))) H':=by
  suffices h:WCall Try.prog S (.fn 19) [.int .i64 e,v,.agg ⟨[v2,.int .i64 d]⟩] H (fun v H' => v = .bool (decide (Shr e c w d)) ∧ Keep H H') by
    obtain ⟨_,H',hr,rfl,hk⟩:=h; exact ⟨H',hk,hr⟩
  obtain ⟨a,cap,rfl⟩:=hc.v0;obtain ⟨a2,cap2,rfl⟩:=hl.v0;refine call_of Try.func19 rfl (Nat.le_of_ble_eq_true rfl) (hS.no rfl _ _) ?_
  rw [Try.ntmps19,Try.results19];obtain ⟨H1,e1,hK1,hz1,rd2,rd0,rd1⟩:=boxP H (.slice a2 w.length cap2) (.int .i64 d);have hL1:=hK1.low hL
  repeat' (first | (with_reducible refine Zafd (fun h => ?_) (fun h => ?_)) | (with_reducible refine Zafa (fun h => ?_) (fun h => ?_)) | (with_reducible refine Zafh (fun h => ?_) (fun h => ?_)) | simp only [↓Zadl,↓Zadf,↓Zadi,↓Zadk,↓Zaas,↓Zaat,↓Zade,↓Zadg,↓Zadh,↓Zadj,↓Zafk,↓Zafj,↓Zaey,↓Zaau,↓Zaeo,↓Zadp,↓Zaer,↓Zado,↓Zadt,↓Zadu,↓Zadv,↓Zaef,↓Zaeg,↓Zaeq,↓Zads,↓Zaev,↓Zadx,↓Zaej,↓Zaei,↓Zaek,↓Zael,↓Zaet,↓Zaec,↓Zaeb,↓Zaee,↓Zaed,↓Zaeu,↓Zaea,↓Zaeh,↓Zaen,↓Zaes,↓Zaep,↓Zady,↓Zaem,↓Zadz,↓Zaex,↓Zafq,↓Zacb,↓Zabt,↓Zaay,↓Zabv,↓Zaav,↓Zaba,↓Zabb,↓Zabc,↓Zabn,↓Zabx,↓Zabu,↓Zaaz,↓Zaby,↓Zabp,↓Zabo,↓Zabq,↓Zabw,↓Zabj,↓Zabi,↓Zabl,↓Zabk,↓Zaax,↓Zabh,↓Zabz,↓Zabm,↓Zabd,↓Zaaw,↓Zabg,↓Zabe,↓Zabr,↓Zabs,↓Zabf,↓Zafn,↓bxPut,↓Zadb,↓Zacz,↓Zadc,↓Zada,↓Zaaq,↓Zaar,↓Zaap,↓Zaao,↓Zacp,↓Zacn,↓Zacq,↓Zaco,↓Zacx,↓Zacy,↓Zafo,↓Zafp,↓Zaca,↓Zafs,↓Zacj,↓Zacg,↓Zaci,↓Zach,↓dstAt,↓Zacl,Zacd,Zacf,Zace,Zaan,eql_str,neq_str,Zaaa,Zaac,Zaab,Zaai,Zaah,Zaaj,Zafm,Zafl,mm_max,mm_min,Zaal,Zaam,Zaak,Zacm,Zafr,una_nt,una_nf,una_neg,Zaag,Zaaf,Zadm,Zadn,Zaff,Zafe,Zafc,Zafb,Zaez,Zafi,Zafg,Zacs,Zact,List.map,List.nil_append,List.cons_append,List.append_nil,↓reduceIte,Nat.reduceEqDiff,Nat.reduceLT,dec_T,dec_F,Zack,true_and,and_true,true_implies,implies_true,false_and,and_false,true_or,or_true,false_or,or_false,and_self,or_self,Zacv,Zadd,Zacr,Zacw,Zaae,Nat.add_zero,Nat.mul_one,one1,Option.bind_some,ne_eq,Int.natCast_nonneg,Int.toNat_natCast,not_true_eq_false,not_false_eq_true,Option.map_some,Option.map_none, *,argF,List.getD_cons_zero,List.getD_cons_succ,lenI,cells_agg,fldP0,fldP1,ldI,ldIs] | (with_reducible first | refine Zadr (by assumption) (by decide +kernel) ?_ | refine Zadq (by decide +kernel) ?_ | refine Zaew (by decide +kernel) ?_ | refine Zadw ?_))
  · exact bool_f fun hh => by have:=hh.2.1; omega
  · have hwc:w.length ≤ c.length ∧ c.length ≤ w.length:=by omega
    have hd:1 ≤ d ∧ d ≤ 1000000:=by omega
    have hcm:∀ x ∈ c,0 ≤ x ∧ x ≤ 100000:=hP.2.2.1;have hn7:(c.length:Int) ≤ 7:=hP.2.1.2;have he:0 ≤ e ∧ e ≤ 100000:=hP.1;refine sxL_of (fun m ρ H3 => ∃ k:Nat,m = w.length - k ∧ k ≤ w.length ∧ H3 = H1 ∧ (∀ i,i < k → 0 ≤ w.getD i 0 ∧ w.getD i 0 ≤ c.getD i 0 * d) ∧ ρ 0 = .int .i64 e ∧ ρ 1 = .slice a c.length cap ∧ ρ 5 = .pointer (some ⟨H.size,0,none⟩) ∧ ρ 7 = .int .i64 (w.take k).sum ∧ ρ 8 = .int .i64 k)
      ⟨0,rfl,Nat.zero_le _,rfl,fun i hi => absurd hi (Nat.not_lt_zero i),rfl,rfl,rfl,rfl,rfl⟩ ?_
    clear h;clear h;clear h;clear e1 hP;rintro m ρ H3 ⟨k,rfl,hk,rfl,hall,e0,e1,e5,e7,e8⟩;have hall3:∀ i,i < k → 0 ≤ w.getD i 0 ∧ w.getD i 0 ≤ 100000000000:=fun i hi => by
      have h1:=hall i hi;have h2:=hcm _ (getD_mem (l:=c) (k:=i) (d:=0) (by omega))
      have h3:c.getD i 0 * d ≤ 100000 * 1000000:=Int.mul_le_mul h2.2 hd.2 (by omega) (by omega)
      omega
    by_cases hlt:k < w.length
    · have hl2:=hl.keep hK1;have hix:=SlI_ix hl2 hlt;have hrd:=(hl2.rdI hlt).1;have hc2:=hc.keep hK1;have hltc:k < c.length:=by omega
      have hix2:=SlI_ix hc2 hltc;have hrd2:=(hc2.rdI hltc).1;have hw:=wrap_succ hlt hl.ml;have hlt':(k:Int) < (c.length:Int):=by omega
      have hck:=hcm _ (getD_mem (d:=0) hltc);have hm1:0 ≤ c.getD k 0 * d:=Int.mul_nonneg hck.1 (by omega)
      have hm2:c.getD k 0 * d ≤ 100000 * 1000000:=Int.mul_le_mul hck.2 hd.2 (by omega) (by omega)
      have hw2:IntKind.i64.wrap (c.getD k 0 * d) = c.getD k 0 * d:=IntWalk.i64_in _ (by omega)
      by_cases hx:0 ≤ w.getD k 0 ∧ w.getD k 0 ≤ c.getD k 0 * d
      · have hall2:∀ i,i < k + 1 → 0 ≤ w.getD i 0 ∧ w.getD i 0 ≤ c.getD i 0 * d:=fun i hi => by
          rcases Nat.lt_or_ge i k with h | h
          · exact hall i h
          · rw [show i = k by omega]; exact hx
        have g1:=sum_take_succ w hlt;have g2:=sum_takeB w 100000000000 (k:=k) hk hall3;have g4:=mul_bound (B:=100000000000) (show k ≤ 7 by omega) (by omega)
        have g3:IntKind.i64.wrap ((w.take k).sum + w.getD k 0) = (w.take (k + 1)).sum:=by rw [← g1]; exact IntWalk.i64_in _ (by omega)
        have x1:¬ w.getD k 0 < 0:=by omega
        have x2:¬ c.getD k 0 * d < w.getD k 0:=by omega
        clear hl hl2 hc hc2 g1 g2 g4 hm1 hm2
        repeat' (first | (with_reducible refine Zafd (fun h => ?_) (fun h => ?_)) | (with_reducible refine Zafa (fun h => ?_) (fun h => ?_)) | (with_reducible refine Zafh (fun h => ?_) (fun h => ?_)) | simp only [↓Zadl,↓Zadf,↓Zadi,↓Zadk,↓Zaas,↓Zaat,↓Zade,↓Zadg,↓Zadh,↓Zadj,↓Zafk,↓Zafj,↓Zaey,↓Zaau,↓Zaeo,↓Zadp,↓Zaer,↓Zado,↓Zadt,↓Zadu,↓Zadv,↓Zaef,↓Zaeg,↓Zaeq,↓Zads,↓Zaev,↓Zadx,↓Zaej,↓Zaei,↓Zaek,↓Zael,↓Zaet,↓Zaec,↓Zaeb,↓Zaee,↓Zaed,↓Zaeu,↓Zaea,↓Zaeh,↓Zaen,↓Zaes,↓Zaep,↓Zady,↓Zaem,↓Zadz,↓Zaex,↓Zafq,↓Zacb,↓Zabt,↓Zaay,↓Zabv,↓Zaav,↓Zaba,↓Zabb,↓Zabc,↓Zabn,↓Zabx,↓Zabu,↓Zaaz,↓Zaby,↓Zabp,↓Zabo,↓Zabq,↓Zabw,↓Zabj,↓Zabi,↓Zabl,↓Zabk,↓Zaax,↓Zabh,↓Zabz,↓Zabm,↓Zabd,↓Zaaw,↓Zabg,↓Zabe,↓Zabr,↓Zabs,↓Zabf,↓Zafn,↓bxPut,↓Zadb,↓Zacz,↓Zadc,↓Zada,↓Zaaq,↓Zaar,↓Zaap,↓Zaao,↓Zacp,↓Zacn,↓Zacq,↓Zaco,↓Zacx,↓Zacy,↓Zafo,↓Zafp,↓Zaca,↓Zafs,↓Zacj,↓Zacg,↓Zaci,↓Zach,↓dstAt,↓Zacl,Zacd,Zacf,Zace,Zaan,eql_str,neq_str,Zaaa,Zaac,Zaab,Zaai,Zaah,Zaaj,Zafm,Zafl,mm_max,mm_min,Zaal,Zaam,Zaak,Zacm,Zafr,una_nt,una_nf,una_neg,Zaag,Zaaf,Zadm,Zadn,Zaff,Zafe,Zafc,Zafb,Zaez,Zafi,Zafg,Zacs,Zact,List.map,List.nil_append,List.cons_append,List.append_nil,↓reduceIte,Nat.reduceEqDiff,Nat.reduceLT,dec_T,dec_F,Zack,true_and,and_true,true_implies,implies_true,false_and,and_false,true_or,or_true,false_or,or_false,and_self,or_self,Zacv,Zadd,Zacr,Zacw,Zaae,Nat.add_zero,Nat.mul_one,one1,Option.bind_some,ne_eq,Int.natCast_nonneg,Int.toNat_natCast,not_true_eq_false,not_false_eq_true,Option.map_some,Option.map_none, *,lenI,ldI,ldIs,fldP0,fldP1] | (with_reducible first | refine Zadr (by assumption) (by decide +kernel) ?_ | refine Zadq (by decide +kernel) ?_ | refine Zaew (by decide +kernel) ?_ | refine Zadw ?_))
        exact ⟨_,by omega,k + 1,rfl,by omega,hall2,rfl,rfl⟩
      · have hf:¬ Shr e c w d:=fun hh => hx (hh.2.2.1 k hlt)
        clear hl hl2 hc hc2 hm1 hm2
        by_cases x1:w.getD k 0 < 0
        · repeat' (first | (with_reducible refine Zafd (fun h => ?_) (fun h => ?_)) | (with_reducible refine Zafa (fun h => ?_) (fun h => ?_)) | (with_reducible refine Zafh (fun h => ?_) (fun h => ?_)) | simp only [↓Zadl,↓Zadf,↓Zadi,↓Zadk,↓Zaas,↓Zaat,↓Zade,↓Zadg,↓Zadh,↓Zadj,↓Zafk,↓Zafj,↓Zaey,↓Zaau,↓Zaeo,↓Zadp,↓Zaer,↓Zado,↓Zadt,↓Zadu,↓Zadv,↓Zaef,↓Zaeg,↓Zaeq,↓Zads,↓Zaev,↓Zadx,↓Zaej,↓Zaei,↓Zaek,↓Zael,↓Zaet,↓Zaec,↓Zaeb,↓Zaee,↓Zaed,↓Zaeu,↓Zaea,↓Zaeh,↓Zaen,↓Zaes,↓Zaep,↓Zady,↓Zaem,↓Zadz,↓Zaex,↓Zafq,↓Zacb,↓Zabt,↓Zaay,↓Zabv,↓Zaav,↓Zaba,↓Zabb,↓Zabc,↓Zabn,↓Zabx,↓Zabu,↓Zaaz,↓Zaby,↓Zabp,↓Zabo,↓Zabq,↓Zabw,↓Zabj,↓Zabi,↓Zabl,↓Zabk,↓Zaax,↓Zabh,↓Zabz,↓Zabm,↓Zabd,↓Zaaw,↓Zabg,↓Zabe,↓Zabr,↓Zabs,↓Zabf,↓Zafn,↓bxPut,↓Zadb,↓Zacz,↓Zadc,↓Zada,↓Zaaq,↓Zaar,↓Zaap,↓Zaao,↓Zacp,↓Zacn,↓Zacq,↓Zaco,↓Zacx,↓Zacy,↓Zafo,↓Zafp,↓Zaca,↓Zafs,↓Zacj,↓Zacg,↓Zaci,↓Zach,↓dstAt,↓Zacl,Zacd,Zacf,Zace,Zaan,eql_str,neq_str,Zaaa,Zaac,Zaab,Zaai,Zaah,Zaaj,Zafm,Zafl,mm_max,mm_min,Zaal,Zaam,Zaak,Zacm,Zafr,una_nt,una_nf,una_neg,Zaag,Zaaf,Zadm,Zadn,Zaff,Zafe,Zafc,Zafb,Zaez,Zafi,Zafg,Zacs,Zact,List.map,List.nil_append,List.cons_append,List.append_nil,↓reduceIte,Nat.reduceEqDiff,Nat.reduceLT,dec_T,dec_F,Zack,true_and,and_true,true_implies,implies_true,false_and,and_false,true_or,or_true,false_or,or_false,and_self,or_self,Zacv,Zadd,Zacr,Zacw,Zaae,Nat.add_zero,Nat.mul_one,one1,Option.bind_some,ne_eq,Int.natCast_nonneg,Int.toNat_natCast,not_true_eq_false,not_false_eq_true,Option.map_some,Option.map_none, *,lenI,ldI,ldIs,fldP0,fldP1] | (with_reducible first | refine Zadr (by assumption) (by decide +kernel) ?_ | refine Zadq (by decide +kernel) ?_ | refine Zaew (by decide +kernel) ?_ | refine Zadw ?_))
          all_goals first | exact bool_f hf | skip
        · have x2:c.getD k 0 * d < w.getD k 0:=by omega
          repeat' (first | (with_reducible refine Zafd (fun h => ?_) (fun h => ?_)) | (with_reducible refine Zafa (fun h => ?_) (fun h => ?_)) | (with_reducible refine Zafh (fun h => ?_) (fun h => ?_)) | simp only [↓Zadl,↓Zadf,↓Zadi,↓Zadk,↓Zaas,↓Zaat,↓Zade,↓Zadg,↓Zadh,↓Zadj,↓Zafk,↓Zafj,↓Zaey,↓Zaau,↓Zaeo,↓Zadp,↓Zaer,↓Zado,↓Zadt,↓Zadu,↓Zadv,↓Zaef,↓Zaeg,↓Zaeq,↓Zads,↓Zaev,↓Zadx,↓Zaej,↓Zaei,↓Zaek,↓Zael,↓Zaet,↓Zaec,↓Zaeb,↓Zaee,↓Zaed,↓Zaeu,↓Zaea,↓Zaeh,↓Zaen,↓Zaes,↓Zaep,↓Zady,↓Zaem,↓Zadz,↓Zaex,↓Zafq,↓Zacb,↓Zabt,↓Zaay,↓Zabv,↓Zaav,↓Zaba,↓Zabb,↓Zabc,↓Zabn,↓Zabx,↓Zabu,↓Zaaz,↓Zaby,↓Zabp,↓Zabo,↓Zabq,↓Zabw,↓Zabj,↓Zabi,↓Zabl,↓Zabk,↓Zaax,↓Zabh,↓Zabz,↓Zabm,↓Zabd,↓Zaaw,↓Zabg,↓Zabe,↓Zabr,↓Zabs,↓Zabf,↓Zafn,↓bxPut,↓Zadb,↓Zacz,↓Zadc,↓Zada,↓Zaaq,↓Zaar,↓Zaap,↓Zaao,↓Zacp,↓Zacn,↓Zacq,↓Zaco,↓Zacx,↓Zacy,↓Zafo,↓Zafp,↓Zaca,↓Zafs,↓Zacj,↓Zacg,↓Zaci,↓Zach,↓dstAt,↓Zacl,Zacd,Zacf,Zace,Zaan,eql_str,neq_str,Zaaa,Zaac,Zaab,Zaai,Zaah,Zaaj,Zafm,Zafl,mm_max,mm_min,Zaal,Zaam,Zaak,Zacm,Zafr,una_nt,una_nf,una_neg,Zaag,Zaaf,Zadm,Zadn,Zaff,Zafe,Zafc,Zafb,Zaez,Zafi,Zafg,Zacs,Zact,List.map,List.nil_append,List.cons_append,List.append_nil,↓reduceIte,Nat.reduceEqDiff,Nat.reduceLT,dec_T,dec_F,Zack,true_and,and_true,true_implies,implies_true,false_and,and_false,true_or,or_true,false_or,or_false,and_self,or_self,Zacv,Zadd,Zacr,Zacw,Zaae,Nat.add_zero,Nat.mul_one,one1,Option.bind_some,ne_eq,Int.natCast_nonneg,Int.toNat_natCast,not_true_eq_false,not_false_eq_true,Option.map_some,Option.map_none, *,lenI,ldI,ldIs,fldP0,fldP1] | (with_reducible first | refine Zadr (by assumption) (by decide +kernel) ?_ | refine Zadq (by decide +kernel) ?_ | refine Zaew (by decide +kernel) ?_ | refine Zadw ?_))
          all_goals first | exact bool_f hf | skip
    · have hlt':¬ (k:Int) < (c.length:Int):=by omega
      have g:w.take k = w:=List.take_of_length_le (by omega)
      rw [g] at e7;have hm1:0 ≤ e * d:=Int.mul_nonneg he.1 (by omega)
      have hm2:e * d ≤ 100000 * 1000000:=Int.mul_le_mul he.2 hd.2 (by omega) (by omega)
      have hw2:IntKind.i64.wrap (e * d) = e * d:=IntWalk.i64_in _ (by omega)
      have hall2:∀ i,i < w.length → 0 ≤ w.getD i 0 ∧ w.getD i 0 ≤ c.getD i 0 * d:=fun i hi => hall i (by omega)
      have hp:∀ x ∈ w,0 ≤ x:=all_of (d:=0) fun i hi => (hall2 i hi).1
      have hob:=Lowest_runs hS _ w d r2 o2 H3 hL1 (hl.keep hK1) hp (by omega)
      obtain ⟨H4,hK4,hR4⟩:=hob;have hb4:=hR4.bx;have hK5:=hK1.trans hK4;clear hl hc hR4 hm1 hm2 hp hall3 hall
      repeat' (first | (with_reducible refine Zafd (fun h => ?_) (fun h => ?_)) | (with_reducible refine Zafa (fun h => ?_) (fun h => ?_)) | (with_reducible refine Zafh (fun h => ?_) (fun h => ?_)) | simp only [↓Zadl,↓Zadf,↓Zadi,↓Zadk,↓Zaas,↓Zaat,↓Zade,↓Zadg,↓Zadh,↓Zadj,↓Zafk,↓Zafj,↓Zaey,↓Zaau,↓Zaeo,↓Zadp,↓Zaer,↓Zado,↓Zadt,↓Zadu,↓Zadv,↓Zaef,↓Zaeg,↓Zaeq,↓Zads,↓Zaev,↓Zadx,↓Zaej,↓Zaei,↓Zaek,↓Zael,↓Zaet,↓Zaec,↓Zaeb,↓Zaee,↓Zaed,↓Zaeu,↓Zaea,↓Zaeh,↓Zaen,↓Zaes,↓Zaep,↓Zady,↓Zaem,↓Zadz,↓Zaex,↓Zafq,↓Zacb,↓Zabt,↓Zaay,↓Zabv,↓Zaav,↓Zaba,↓Zabb,↓Zabc,↓Zabn,↓Zabx,↓Zabu,↓Zaaz,↓Zaby,↓Zabp,↓Zabo,↓Zabq,↓Zabw,↓Zabj,↓Zabi,↓Zabl,↓Zabk,↓Zaax,↓Zabh,↓Zabz,↓Zabm,↓Zabd,↓Zaaw,↓Zabg,↓Zabe,↓Zabr,↓Zabs,↓Zabf,↓Zafn,↓bxPut,↓Zadb,↓Zacz,↓Zadc,↓Zada,↓Zaaq,↓Zaar,↓Zaap,↓Zaao,↓Zacp,↓Zacn,↓Zacq,↓Zaco,↓Zacx,↓Zacy,↓Zafo,↓Zafp,↓Zaca,↓Zafs,↓Zacj,↓Zacg,↓Zaci,↓Zach,↓dstAt,↓Zacl,Zacd,Zacf,Zace,Zaan,eql_str,neq_str,Zaaa,Zaac,Zaab,Zaai,Zaah,Zaaj,Zafm,Zafl,mm_max,mm_min,Zaal,Zaam,Zaak,Zacm,Zafr,una_nt,una_nf,una_neg,Zaag,Zaaf,Zadm,Zadn,Zaff,Zafe,Zafc,Zafb,Zaez,Zafi,Zafg,Zacs,Zact,List.map,List.nil_append,List.cons_append,List.append_nil,↓reduceIte,Nat.reduceEqDiff,Nat.reduceLT,dec_T,dec_F,Zack,true_and,and_true,true_implies,implies_true,false_and,and_false,true_or,or_true,false_or,or_false,and_self,or_self,Zacv,Zadd,Zacr,Zacw,Zaae,Nat.add_zero,Nat.mul_one,one1,Option.bind_some,ne_eq,Int.natCast_nonneg,Int.toNat_natCast,not_true_eq_false,not_false_eq_true,Option.map_some,Option.map_none, *,lenI,ldI,ldIs,ldPa,fldP0,fldP1] | (with_reducible first | refine Zadr (by assumption) (by decide +kernel) ?_ | refine Zadq (by decide +kernel) ?_ | refine Zaew (by decide +kernel) ?_ | refine Zadw ?_))
      · exact bool_d ⟨fun hh => ⟨by omega,hd,hall2,‹_›,hh⟩,fun hh => hh.2.2.2.2⟩
      · exact bool_f fun hh => absurd hh.2.2.2.1 ‹_›
  · exact bool_f fun hh => by have:=hh.2.1; omega
  · exact bool_f fun hh => by have:=hh.1; omega
end Go.Proofs.Ytmpbapffjapghaa.Q
