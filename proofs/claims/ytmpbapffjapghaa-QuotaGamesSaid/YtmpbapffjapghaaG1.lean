/- What the sorting of wishes wants of the other texts. -/
import Derived.Test.YtmpbapffjapghaaSEP
set_option linter.unusedVariables false
set_option linter.unusedSimpArgs false
set_option linter.unusedSectionVars false

namespace Go.Proofs.Ytmpbapffjapghaa
open Go Go.AM
set_option maxRecDepth 10000

def R64 (z:Int):Prop:=-9223372036854775808 ≤ z ∧ z ≤ 9223372036854775807
theorem ldC (H:Heap) (r o:Nat):aLoad Try.prog H 3 (.pointer (some ⟨r,o,none⟩)) = (H.read r o 1).bind one1:=by kernel_rfl
theorem lenIs (a:Option Addr) (n c:Nat):aLen Try.prog #[22] (.slice a n c) = some (.int .i64 n):=by kernel_rfl
theorem ixIs (r o n c:Nat) (k:IntKind) (i:Int):Zaad Try.prog 22 (.slice (some ⟨r,o,none⟩) n c) (.int k i) = if 0 ≤ i ∧ i < (n:Int) then some (.pointer (some ⟨r,o + i.toNat * 1,none⟩)) else none:=by kernel_rfl

theorem SlI_at {H:Heap} {w:List Int} {r o:Nat} {a:Option Addr} {cap:Nat} (h:SlI .i64 H (.slice a w.length cap) w r o) {k:Nat} (h1:k < w.length) :
    Zaad Try.prog 22 (.slice a w.length cap) (.int .i64 (k:Int)) = some (.pointer (some ⟨r,o + k,none⟩)) ∧ H.read r (o + k) 1 = some [.int .i64 (w.getD k 0)]:=by
  obtain ⟨a',cap',e,ha⟩:=h.isv;cases e;exact ⟨by rw [ha (by omega),ixIs,if_pos ⟨by omega,by omega⟩,Int.toNat_natCast,Nat.mul_one],(h.rdI h1).1⟩
variable {S:AM.Sys} (hS:Only S 5)
include hS

end Go.Proofs.Ytmpbapffjapghaa
namespace Go.Proofs.Ytmpbapffjapghaa

abbrev Pt:=Int × Int
end Go.Proofs.Ytmpbapffjapghaa
namespace Go.Proofs.Ytmpbapffjapghaa
open Go Go.AM
set_option maxRecDepth 10000

def stE:Enc Pt:=prodE (intE .i64) (intE .i64)
def pc (x:Pt):List Value:=[.int .i64 x.1,.int .i64 x.2]
theorem stE_inv {H:Heap} {x:Pt} {cs:List Value} (h:stE.At H x cs):cs = pc x ∧ R64 x.1 ∧ R64 x.2:=by
  obtain ⟨c1,c2,rfl,⟨rfl,h1⟩,rfl,h2⟩:=h;exact ⟨rfl,h1,h2⟩
theorem stE_at {H:Heap} {x:Pt} (h1:R64 x.1) (h2:R64 x.2):stE.At H x (pc x):=⟨_,_,rfl,⟨rfl,h1⟩,rfl,h2⟩
abbrev SlP (H:Heap) (v:Value) (w:List Pt) (r o:Nat):Prop:=SlE stE H v w r o
theorem ldS (H:Heap) (r o:Nat):aLoad Try.prog H 43 (.pointer (some ⟨r,o,none⟩)) = (H.read r o 2).map fun l => .agg ⟨l⟩:=by kernel_rfl
theorem lenS (a:Option Addr) (n c:Nat):aLen Try.prog #[40] (.slice a n c) = some (.int .i64 n):=by kernel_rfl
theorem faS0 (r o:Nat):aFieldAt Try.prog 43 0 (.pointer (some ⟨r,o,none⟩)) = some (.pointer (some ⟨r,o + 0,none⟩)):=by kernel_rfl
theorem faS1 (r o:Nat):aFieldAt Try.prog 43 1 (.pointer (some ⟨r,o,none⟩)) = some (.pointer (some ⟨r,o + 1,none⟩)):=by kernel_rfl
theorem alS (H:Heap):aAlloc Try.prog H 43 = some (.pointer (some ⟨H.size,0,none⟩),H.newExact [.int .i64 0,.int .i64 0] 43):=by kernel_rfl
theorem newS (H:Heap) (x:Pt):∃ H2,aStore Try.prog (H.newExact [.int .i64 0,.int .i64 0] 43) 43 (.pointer (some ⟨H.size,0,none⟩)) (.agg ⟨pc x⟩) = some H2 ∧ Keep H H2 ∧ H.size < H2.size ∧ H2.read H.size 0 2 = some (pc x) ∧ H2.read H.size 0 1 = some [.int .i64 x.1] ∧ H2.read H.size 1 1 = some [.int .i64 x.2]:=by
  obtain ⟨i,hi,hsz⟩:=infoP;obtain ⟨H2,h1,h2,h3,h4,h5⟩:=(Own.new H [.int .i64 0,.int .i64 0] 43).store (t:=43) hi (v:=.agg ⟨pc x⟩) (new:=pc x) rfl (by rw [hsz]; rfl) rfl (o:=0) (by show 0 + 2 ≤ 2; decide)
  have h2:Own H2 H.size 43 (pc x):=h2;exact ⟨H2,h1,h5 H (Keep.newExact _ _ _) (Nat.le_refl _),h2.lt,h2.read (o:=0) (n:=2) (by show 0 + 2 ≤ 2; decide),h2.read (o:=0) (n:=1) (by show 0 + 1 ≤ 2; decide),h2.read (o:=1) (n:=1) (by show 1 + 1 ≤ 2; decide)⟩
theorem boxSt (H:Heap) (x:Pt):∃ H1,H.newExact (pc x) 43 = H1 ∧ Keep H H1 ∧ H1.read H.size 0 2 = some (pc x) ∧ H1.read H.size 0 1 = some [.int .i64 x.1] ∧ H1.read H.size 1 1 = some [.int .i64 x.2]:=by
  obtain ⟨H1,e1,hK1,hz1,hr1,hrs⟩:=boxS H (pc x) 43;exact ⟨H1,e1,hK1,hr1,hrs 0 1 (by show _ ≤ 2; decide),hrs 1 1 (by show _ ≤ 2; decide)⟩
theorem SlP_at {H:Heap} {w:List Pt} {r o:Nat} {a:Option Addr} {cap:Nat} (h:SlP H (.slice a w.length cap) w r o) {k:Nat} (h1:k < w.length) :
    ∃ q,Zaad Try.prog 40 (.slice a w.length cap) (.int .i64 (k:Int)) = some (.pointer (some ⟨r,q,none⟩)) ∧ H.read r q 2 = some (pc (w.getD k default)) ∧
      H.read r q 1 = some [.int .i64 (w.getD k default).1] ∧ H.read r (q + 1) 1 = some [.int .i64 (w.getD k default).2] ∧ R64 (w.getD k default).1 ∧ R64 (w.getD k default).2:=by
  obtain ⟨a',cap',e,ha⟩:=h.isv;cases e;obtain ⟨es,h2,h3⟩:=h.rd k h1;obtain ⟨rfl,h4,h5⟩:=stE_inv h3;have h2:H.read r (o + k * 2) 2 = some (pc (w.getD k default)):=h2;have hs:=fun j (hj:j + 1 ≤ 2) => read_sub h2 hj
  have hx:Zaad Try.prog 40 (.slice (some ⟨r,o,none⟩) w.length cap) (.int .i64 (k:Int)) = if 0 ≤ (k:Int) ∧ (k:Int) < ((w.length:Nat):Int) then some (.pointer (some ⟨r,o + ((k:Int)).toNat * 2,none⟩)) else none:=by kernel_rfl
  refine ⟨o + k * 2,by rw [ha (by omega),hx,if_pos ⟨by omega,by omega⟩,Int.toNat_natCast],h2,?_,hs 1 (by omega),h4,h5⟩
  exact hs 0 (by omega)
variable {S:AM.Sys} (hS:Only S 5)
include hS

end Go.Proofs.Ytmpbapffjapghaa
namespace Go.Proofs.Ytmpbapffjapghaa
open Go Go.AM
set_option maxRecDepth 10000

theorem cvI2U (z:Int):aConv Try.prog 3 75 (.int .i64 z) = some (.int .u64 (IntKind.u64.wrap z)):=by kernel_rfl
def cmp3 (x y:Int):Int:=if x < y then -1 else if y < x then 1 else 0
variable {S:AM.Sys} (hS:Only S 5)
include hS

theorem isNaNv_runs (x:Int) (H:Heap):Runs Try.prog S (.fn 51) [.int .i64 x] H (.bool false) H:=by
  suffices h:WCall Try.prog S (.fn 51) [.int .i64 x] H (fun v H' => v = .bool false ∧ H' = H) by
    obtain ⟨_,_,hr,rfl,rfl⟩:=h; exact hr
  have d:decide (¬ x = x) = false:=decide_eq_false fun h => h rfl
  refine call_of Try.func51 rfl (Nat.le_of_ble_eq_true rfl) (hS.no rfl _ _) ?_
  rw [Try.ntmps51,Try.results51]
  repeat' (first | simp only [↓Zadl,↓Zadf,↓Zadi,↓Zadk,↓Zaas,↓Zaat,↓Zade,↓Zadg,↓Zadh,↓Zadj,↓Zafk,↓Zafj,↓Zaey,↓Zaau,↓Zaeo,↓Zadp,↓Zaer,↓Zado,↓Zadt,↓Zadu,↓Zadv,↓Zaef,↓Zaeg,↓Zaeq,↓Zads,↓Zaev,↓Zadx,↓Zaej,↓Zaei,↓Zaek,↓Zael,↓Zaet,↓Zaec,↓Zaeb,↓Zaee,↓Zaed,↓Zaeu,↓Zaea,↓Zaeh,↓Zaen,↓Zaes,↓Zaep,↓Zady,↓Zaem,↓Zadz,↓Zaex,↓Zafq,↓Zacb,↓Zabt,↓Zaay,↓Zabv,↓Zaav,↓Zaba,↓Zabb,↓Zabc,↓Zabn,↓Zabx,↓Zabu,↓Zaaz,↓Zaby,↓Zabp,↓Zabo,↓Zabq,↓Zabw,↓Zabj,↓Zabi,↓Zabl,↓Zabk,↓Zaax,↓Zabh,↓Zabz,↓Zabm,↓Zabd,↓Zaaw,↓Zabg,↓Zabe,↓Zabr,↓Zabs,↓Zabf,↓Zafn,↓bxPut,↓Zadb,↓Zacz,↓Zadc,↓Zada,↓Zaaq,↓Zaar,↓Zaap,↓Zaao,↓Zacp,↓Zacn,↓Zacq,↓Zaco,↓Zacx,↓Zacy,↓Zafo,↓Zafp,↓Zaca,↓Zafs,↓Zacj,↓Zacg,↓Zaci,↓Zach,↓dstAt,↓Zacl,Zacd,Zacf,Zace,Zaan,eql_str,neq_str,Zaaa,Zaac,Zaab,Zaai,Zaah,Zaaj,Zafm,Zafl,mm_max,mm_min,Zaal,Zaam,Zaak,Zacm,Zafr,una_nt,una_nf,una_neg,Zaag,Zaaf,Zadm,Zadn,Zaff,Zafe,Zafc,Zafb,Zaez,Zafi,Zafg,Zacs,Zact,List.map,List.nil_append,List.cons_append,List.append_nil,↓reduceIte,Nat.reduceEqDiff,Nat.reduceLT,dec_T,dec_F,Zack,true_and,and_true,true_implies,implies_true,false_and,and_false,true_or,or_true,false_or,or_false,and_self,or_self,Zacv,Zadd,Zacr,Zacw,Zaae,Nat.add_zero,Nat.mul_one,one1,Option.bind_some,ne_eq,Int.natCast_nonneg,Int.toNat_natCast,not_true_eq_false,not_false_eq_true,Option.map_some,Option.map_none, *,argF,List.getD_cons_zero,List.getD_cons_succ] | (with_reducible first | refine Zadr (by assumption) (by decide +kernel) ?_ | refine Zadq (by decide +kernel) ?_ | refine Zaew (by decide +kernel) ?_ | refine Zadw ?_))
theorem cmpV_runs (x y:Int) (H:Heap):Runs Try.prog S (.fn 33) [.int .i64 x,.int .i64 y] H (.int .i64 (cmp3 x y)) H:=by
  suffices h:WCall Try.prog S (.fn 33) [.int .i64 x,.int .i64 y] H (fun v H' => v = .int .i64 (cmp3 x y) ∧ H' = H) by
    obtain ⟨_,_,hr,rfl,rfl⟩:=h; exact hr
  have f1:=(isNaNv_runs hS x H).bx;have f2:=(isNaNv_runs hS y H).bx;obtain ⟨z,hz⟩:∃ z,z = cmp3 x y:=⟨_,rfl⟩;rw [← hz];unfold cmp3 at hz;refine call_of Try.func33 rfl (Nat.le_of_ble_eq_true rfl) (hS.no rfl _ _) ?_
  rw [Try.ntmps33,Try.results33]
  by_cases h1:x < y
  · rw [if_pos h1] at hz;subst hz
    repeat' (first | simp only [↓Zadl,↓Zadf,↓Zadi,↓Zadk,↓Zaas,↓Zaat,↓Zade,↓Zadg,↓Zadh,↓Zadj,↓Zafk,↓Zafj,↓Zaey,↓Zaau,↓Zaeo,↓Zadp,↓Zaer,↓Zado,↓Zadt,↓Zadu,↓Zadv,↓Zaef,↓Zaeg,↓Zaeq,↓Zads,↓Zaev,↓Zadx,↓Zaej,↓Zaei,↓Zaek,↓Zael,↓Zaet,↓Zaec,↓Zaeb,↓Zaee,↓Zaed,↓Zaeu,↓Zaea,↓Zaeh,↓Zaen,↓Zaes,↓Zaep,↓Zady,↓Zaem,↓Zadz,↓Zaex,↓Zafq,↓Zacb,↓Zabt,↓Zaay,↓Zabv,↓Zaav,↓Zaba,↓Zabb,↓Zabc,↓Zabn,↓Zabx,↓Zabu,↓Zaaz,↓Zaby,↓Zabp,↓Zabo,↓Zabq,↓Zabw,↓Zabj,↓Zabi,↓Zabl,↓Zabk,↓Zaax,↓Zabh,↓Zabz,↓Zabm,↓Zabd,↓Zaaw,↓Zabg,↓Zabe,↓Zabr,↓Zabs,↓Zabf,↓Zafn,↓bxPut,↓Zadb,↓Zacz,↓Zadc,↓Zada,↓Zaaq,↓Zaar,↓Zaap,↓Zaao,↓Zacp,↓Zacn,↓Zacq,↓Zaco,↓Zacx,↓Zacy,↓Zafo,↓Zafp,↓Zaca,↓Zafs,↓Zacj,↓Zacg,↓Zaci,↓Zach,↓dstAt,↓Zacl,Zacd,Zacf,Zace,Zaan,eql_str,neq_str,Zaaa,Zaac,Zaab,Zaai,Zaah,Zaaj,Zafm,Zafl,mm_max,mm_min,Zaal,Zaam,Zaak,Zacm,Zafr,una_nt,una_nf,una_neg,Zaag,Zaaf,Zadm,Zadn,Zaff,Zafe,Zafc,Zafb,Zaez,Zafi,Zafg,Zacs,Zact,List.map,List.nil_append,List.cons_append,List.append_nil,↓reduceIte,Nat.reduceEqDiff,Nat.reduceLT,dec_T,dec_F,Zack,true_and,and_true,true_implies,implies_true,false_and,and_false,true_or,or_true,false_or,or_false,and_self,or_self,Zacv,Zadd,Zacr,Zacw,Zaae,Nat.add_zero,Nat.mul_one,one1,Option.bind_some,ne_eq,Int.natCast_nonneg,Int.toNat_natCast,not_true_eq_false,not_false_eq_true,Option.map_some,Option.map_none, *,argF,List.getD_cons_zero,List.getD_cons_succ] | (with_reducible first | refine Zadr (by assumption) (by decide +kernel) ?_ | refine Zadq (by decide +kernel) ?_ | refine Zaew (by decide +kernel) ?_ | refine Zadw ?_))
  · rw [if_neg h1] at hz
    by_cases h2:y < x
    · rw [if_pos h2] at hz;subst hz
      repeat' (first | simp only [↓Zadl,↓Zadf,↓Zadi,↓Zadk,↓Zaas,↓Zaat,↓Zade,↓Zadg,↓Zadh,↓Zadj,↓Zafk,↓Zafj,↓Zaey,↓Zaau,↓Zaeo,↓Zadp,↓Zaer,↓Zado,↓Zadt,↓Zadu,↓Zadv,↓Zaef,↓Zaeg,↓Zaeq,↓Zads,↓Zaev,↓Zadx,↓Zaej,↓Zaei,↓Zaek,↓Zael,↓Zaet,↓Zaec,↓Zaeb,↓Zaee,↓Zaed,↓Zaeu,↓Zaea,↓Zaeh,↓Zaen,↓Zaes,↓Zaep,↓Zady,↓Zaem,↓Zadz,↓Zaex,↓Zafq,↓Zacb,↓Zabt,↓Zaay,↓Zabv,↓Zaav,↓Zaba,↓Zabb,↓Zabc,↓Zabn,↓Zabx,↓Zabu,↓Zaaz,↓Zaby,↓Zabp,↓Zabo,↓Zabq,↓Zabw,↓Zabj,↓Zabi,↓Zabl,↓Zabk,↓Zaax,↓Zabh,↓Zabz,↓Zabm,↓Zabd,↓Zaaw,↓Zabg,↓Zabe,↓Zabr,↓Zabs,↓Zabf,↓Zafn,↓bxPut,↓Zadb,↓Zacz,↓Zadc,↓Zada,↓Zaaq,↓Zaar,↓Zaap,↓Zaao,↓Zacp,↓Zacn,↓Zacq,↓Zaco,↓Zacx,↓Zacy,↓Zafo,↓Zafp,↓Zaca,↓Zafs,↓Zacj,↓Zacg,↓Zaci,↓Zach,↓dstAt,↓Zacl,Zacd,Zacf,Zace,Zaan,eql_str,neq_str,Zaaa,Zaac,Zaab,Zaai,Zaah,Zaaj,Zafm,Zafl,mm_max,mm_min,Zaal,Zaam,Zaak,Zacm,Zafr,una_nt,una_nf,una_neg,Zaag,Zaaf,Zadm,Zadn,Zaff,Zafe,Zafc,Zafb,Zaez,Zafi,Zafg,Zacs,Zact,List.map,List.nil_append,List.cons_append,List.append_nil,↓reduceIte,Nat.reduceEqDiff,Nat.reduceLT,dec_T,dec_F,Zack,true_and,and_true,true_implies,implies_true,false_and,and_false,true_or,or_true,false_or,or_false,and_self,or_self,Zacv,Zadd,Zacr,Zacw,Zaae,Nat.add_zero,Nat.mul_one,one1,Option.bind_some,ne_eq,Int.natCast_nonneg,Int.toNat_natCast,not_true_eq_false,not_false_eq_true,Option.map_some,Option.map_none, *,argF,List.getD_cons_zero,List.getD_cons_succ] | (with_reducible first | refine Zadr (by assumption) (by decide +kernel) ?_ | refine Zadq (by decide +kernel) ?_ | refine Zaew (by decide +kernel) ?_ | refine Zadw ?_))
    · rw [if_neg h2] at hz;subst hz
      repeat' (first | simp only [↓Zadl,↓Zadf,↓Zadi,↓Zadk,↓Zaas,↓Zaat,↓Zade,↓Zadg,↓Zadh,↓Zadj,↓Zafk,↓Zafj,↓Zaey,↓Zaau,↓Zaeo,↓Zadp,↓Zaer,↓Zado,↓Zadt,↓Zadu,↓Zadv,↓Zaef,↓Zaeg,↓Zaeq,↓Zads,↓Zaev,↓Zadx,↓Zaej,↓Zaei,↓Zaek,↓Zael,↓Zaet,↓Zaec,↓Zaeb,↓Zaee,↓Zaed,↓Zaeu,↓Zaea,↓Zaeh,↓Zaen,↓Zaes,↓Zaep,↓Zady,↓Zaem,↓Zadz,↓Zaex,↓Zafq,↓Zacb,↓Zabt,↓Zaay,↓Zabv,↓Zaav,↓Zaba,↓Zabb,↓Zabc,↓Zabn,↓Zabx,↓Zabu,↓Zaaz,↓Zaby,↓Zabp,↓Zabo,↓Zabq,↓Zabw,↓Zabj,↓Zabi,↓Zabl,↓Zabk,↓Zaax,↓Zabh,↓Zabz,↓Zabm,↓Zabd,↓Zaaw,↓Zabg,↓Zabe,↓Zabr,↓Zabs,↓Zabf,↓Zafn,↓bxPut,↓Zadb,↓Zacz,↓Zadc,↓Zada,↓Zaaq,↓Zaar,↓Zaap,↓Zaao,↓Zacp,↓Zacn,↓Zacq,↓Zaco,↓Zacx,↓Zacy,↓Zafo,↓Zafp,↓Zaca,↓Zafs,↓Zacj,↓Zacg,↓Zaci,↓Zach,↓dstAt,↓Zacl,Zacd,Zacf,Zace,Zaan,eql_str,neq_str,Zaaa,Zaac,Zaab,Zaai,Zaah,Zaaj,Zafm,Zafl,mm_max,mm_min,Zaal,Zaam,Zaak,Zacm,Zafr,una_nt,una_nf,una_neg,Zaag,Zaaf,Zadm,Zadn,Zaff,Zafe,Zafc,Zafb,Zaez,Zafi,Zafg,Zacs,Zact,List.map,List.nil_append,List.cons_append,List.append_nil,↓reduceIte,Nat.reduceEqDiff,Nat.reduceLT,dec_T,dec_F,Zack,true_and,and_true,true_implies,implies_true,false_and,and_false,true_or,or_true,false_or,or_false,and_self,or_self,Zacv,Zadd,Zacr,Zacw,Zaae,Nat.add_zero,Nat.mul_one,one1,Option.bind_some,ne_eq,Int.natCast_nonneg,Int.toNat_natCast,not_true_eq_false,not_false_eq_true,Option.map_some,Option.map_none, *,argF,List.getD_cons_zero,List.getD_cons_succ] | (with_reducible first | refine Zadr (by assumption) (by decide +kernel) ?_ | refine Zadq (by decide +kernel) ?_ | refine Zaew (by decide +kernel) ?_ | refine Zadw ?_))

end Go.Proofs.Ytmpbapffjapghaa
namespace Go.Proofs.Ytmpbapffjapghaa
open Go Go.AM
set_option maxRecDepth 10000

def onH (H:Heap):Base:={ toHeap:=H,side:=[] }
def R2 (x:Pt):Prop:=R64 x.1 ∧ R64 x.2
def PtsIn (H0 H:Heap) (v:Value) (d:Array Pt):Prop:=AllP R2 d ∧ d.size ≤ 60000 ∧ Grp H0 ∧ Keep H0 H ∧
  ((d.size = 0 ∧ v = .slice none 0 0) ∨ (0 < d.size ∧ ∃ b r k,v = .slice (some ⟨r,0,none⟩) d.size d.size ∧ SaP (onH H0) H b r k d))
theorem chunks_flat {H:Heap}:∀ {xs:List Pt} {cells:List Value},Chunks stE H xs cells → cells = xs.flatMap pc ∧ ∀ x ∈ xs,R2 x
  | [],cells,h => by
    have h1:=h.1;simp at h1;exact ⟨by simpa using h1,fun x hx => by cases hx⟩
  | x :: xs,cells,h => by
    have h1:cells.length = (xs.length + 1) * 2:=h.1;have h2:stE.At H x ((cells.drop (0 * 2)).take 2):=h.2 0 (by simp)
    obtain ⟨h3,h4⟩:=stE_inv h2;rw [Nat.zero_mul,List.drop_zero] at h3
    have hk:Chunks stE H xs (cells.drop 2):=⟨by show _ = xs.length * 2; rw [List.length_drop]; omega,fun i hi => by
      have h5:stE.At H ((x :: xs).getD (i + 1) default) ((cells.drop ((i + 1) * 2)).take 2):=h.2 (i + 1) (by simpa using hi)
      rw [List.getD_cons_succ] at h5;show stE.At H _ (((cells.drop 2).drop (i * 2)).take 2);rw [List.drop_drop,show 2 + i * 2 = (i + 1) * 2 by omega]
      exact h5⟩
    obtain ⟨k1,k2⟩:=chunks_flat hk;refine ⟨?_,fun y hy => ?_⟩
    · rw [List.flatMap_cons,← h3,← k1,List.take_append_drop]
    · rcases List.mem_cons.1 hy with e | hy
      · rw [e]; exact h4
      · exact k2 y hy
theorem allP_mem {V:Pt → Prop} {xs:List Pt}:AllP V xs.toArray ↔ ∀ x ∈ xs,V x:=by
  constructor
  · intro h x hx;obtain ⟨i,hi,rfl⟩:=List.getElem_of_mem hx;have:=h i (by simpa using hi)
    simpa [hi] using this
  · intro h i hi;have hi':i < xs.length:=by simpa using hi
    have:=h xs[i] (List.getElem_mem hi')
    simpa [hi'] using this
theorem PtsIn.sl {H0 H:Heap} {v:Value} {d:Array Pt} (h:PtsIn H0 H v d):∃ r,SlP H v d.toList r 0 ∧ (0 < d.size → H0.size ≤ r):=by
  obtain ⟨hV,hm,hg,hk,h | ⟨hp,b,r,k,rfl,ha⟩⟩:=h
  · obtain ⟨h1,rfl⟩:=h;have h2:d.toList = []:=List.length_eq_zero_iff.1 (by simpa using h1)
    rw [h2];exact ⟨0,⟨⟨none,0,rfl,fun h => absurd h (Nat.lt_irrefl 0)⟩,fun i hi => absurd hi (Nat.not_lt_zero i),fun h => absurd h (Nat.lt_irrefl 0),Nat.zero_le _⟩,fun h => by omega⟩
  · refine ⟨r,⟨⟨_,_,by rw [Array.length_toList],fun _ => rfl⟩,fun i hi => ?_,fun _ => ha.lt,?_⟩,fun _ => Nat.le_trans ha.le ha.ge⟩
    · have hi':i < d.size:=by simpa using hi
      have hle:i * 2 + 2 ≤ (flat celTwo d).length:=by rw [flat_len]; show _ ≤ d.size * 2; omega
      have h1:=ha.read hle;have h2:=flat_at (C:=celTwo) d hi';have h2:((flat celTwo d).drop (i * 2)).take 2 = pc d[i]!:=h2;rw [h2] at h1;have h3:d.toList.getD i default = d[i]!:=by
        rw [getElem!_pos _ i hi',List.getD_eq_getElem?_getD,List.getElem?_eq_getElem (by simpa using hi')]
        rfl
      refine ⟨pc d[i]!,by rw [Nat.zero_add]; exact h1,?_⟩
      rw [h3];exact stE_at (hV i hi').1 (hV i hi').2
    · have:Go.maxLen = 9223372036854775807:=rfl;rw [Array.length_toList];omega

variable {S:AM.Sys} (hS:Only S 5)
include hS

theorem insN_runs (f:Value) (H:Heap):∃ u,Runs Try.prog S (.fn 57) [.slice none 0 0,.int .i64 0,.int .i64 0,f] H u H:=by
  suffices h:WCall Try.prog S (.fn 57) [.slice none 0 0,.int .i64 0,.int .i64 0,f] H (fun u H' => H' = H) by
    obtain ⟨u,_,hr,rfl⟩:=h; exact ⟨u,hr⟩
  have hw:IntKind.i64.wrap (0 + 1) = 1:=by decide
  have hn:¬ (1:Int) < 0:=by decide
  refine call_of Try.func57 rfl (Nat.le_of_ble_eq_true rfl) (hS.no rfl _ _) ?_
  rw [Try.ntmps57,Try.results57]
  repeat' (first | simp only [↓Zadl,↓Zadf,↓Zadi,↓Zadk,↓Zaas,↓Zaat,↓Zade,↓Zadg,↓Zadh,↓Zadj,↓Zafk,↓Zafj,↓Zaey,↓Zaau,↓Zaeo,↓Zadp,↓Zaer,↓Zado,↓Zadt,↓Zadu,↓Zadv,↓Zaef,↓Zaeg,↓Zaeq,↓Zads,↓Zaev,↓Zadx,↓Zaej,↓Zaei,↓Zaek,↓Zael,↓Zaet,↓Zaec,↓Zaeb,↓Zaee,↓Zaed,↓Zaeu,↓Zaea,↓Zaeh,↓Zaen,↓Zaes,↓Zaep,↓Zady,↓Zaem,↓Zadz,↓Zaex,↓Zafq,↓Zacb,↓Zabt,↓Zaay,↓Zabv,↓Zaav,↓Zaba,↓Zabb,↓Zabc,↓Zabn,↓Zabx,↓Zabu,↓Zaaz,↓Zaby,↓Zabp,↓Zabo,↓Zabq,↓Zabw,↓Zabj,↓Zabi,↓Zabl,↓Zabk,↓Zaax,↓Zabh,↓Zabz,↓Zabm,↓Zabd,↓Zaaw,↓Zabg,↓Zabe,↓Zabr,↓Zabs,↓Zabf,↓Zafn,↓bxPut,↓Zadb,↓Zacz,↓Zadc,↓Zada,↓Zaaq,↓Zaar,↓Zaap,↓Zaao,↓Zacp,↓Zacn,↓Zacq,↓Zaco,↓Zacx,↓Zacy,↓Zafo,↓Zafp,↓Zaca,↓Zafs,↓Zacj,↓Zacg,↓Zaci,↓Zach,↓dstAt,↓Zacl,Zacd,Zacf,Zace,Zaan,eql_str,neq_str,Zaaa,Zaac,Zaab,Zaai,Zaah,Zaaj,Zafm,Zafl,mm_max,mm_min,Zaal,Zaam,Zaak,Zacm,Zafr,una_nt,una_nf,una_neg,Zaag,Zaaf,Zadm,Zadn,Zaff,Zafe,Zafc,Zafb,Zaez,Zafi,Zafg,Zacs,Zact,List.map,List.nil_append,List.cons_append,List.append_nil,↓reduceIte,Nat.reduceEqDiff,Nat.reduceLT,dec_T,dec_F,Zack,true_and,and_true,true_implies,implies_true,false_and,and_false,true_or,or_true,false_or,or_false,and_self,or_self,Zacv,Zadd,Zacr,Zacw,Zaae,Nat.add_zero,Nat.mul_one,one1,Option.bind_some,ne_eq,Int.natCast_nonneg,Int.toNat_natCast,not_true_eq_false,not_false_eq_true,Option.map_some,Option.map_none, *,argF,List.getD_cons_zero,List.getD_cons_succ] | (with_reducible first | refine Zadr (by assumption) (by decide +kernel) ?_ | refine Zadq (by decide +kernel) ?_ | refine Zaew (by decide +kernel) ?_ | refine Zadw ?_))
  refine sxL_of (fun m ρ H1 => H1 = H ∧ ρ 2 = .int .i64 0 ∧ ρ 8 = .int .i64 1) (n:=0) ⟨rfl,rfl,rfl⟩ ?_
  rintro m ρ H1 ⟨rfl,e2,e4⟩
  repeat' (first | simp only [↓Zadl,↓Zadf,↓Zadi,↓Zadk,↓Zaas,↓Zaat,↓Zade,↓Zadg,↓Zadh,↓Zadj,↓Zafk,↓Zafj,↓Zaey,↓Zaau,↓Zaeo,↓Zadp,↓Zaer,↓Zado,↓Zadt,↓Zadu,↓Zadv,↓Zaef,↓Zaeg,↓Zaeq,↓Zads,↓Zaev,↓Zadx,↓Zaej,↓Zaei,↓Zaek,↓Zael,↓Zaet,↓Zaec,↓Zaeb,↓Zaee,↓Zaed,↓Zaeu,↓Zaea,↓Zaeh,↓Zaen,↓Zaes,↓Zaep,↓Zady,↓Zaem,↓Zadz,↓Zaex,↓Zafq,↓Zacb,↓Zabt,↓Zaay,↓Zabv,↓Zaav,↓Zaba,↓Zabb,↓Zabc,↓Zabn,↓Zabx,↓Zabu,↓Zaaz,↓Zaby,↓Zabp,↓Zabo,↓Zabq,↓Zabw,↓Zabj,↓Zabi,↓Zabl,↓Zabk,↓Zaax,↓Zabh,↓Zabz,↓Zabm,↓Zabd,↓Zaaw,↓Zabg,↓Zabe,↓Zabr,↓Zabs,↓Zabf,↓Zafn,↓bxPut,↓Zadb,↓Zacz,↓Zadc,↓Zada,↓Zaaq,↓Zaar,↓Zaap,↓Zaao,↓Zacp,↓Zacn,↓Zacq,↓Zaco,↓Zacx,↓Zacy,↓Zafo,↓Zafp,↓Zaca,↓Zafs,↓Zacj,↓Zacg,↓Zaci,↓Zach,↓dstAt,↓Zacl,Zacd,Zacf,Zace,Zaan,eql_str,neq_str,Zaaa,Zaac,Zaab,Zaai,Zaah,Zaaj,Zafm,Zafl,mm_max,mm_min,Zaal,Zaam,Zaak,Zacm,Zafr,una_nt,una_nf,una_neg,Zaag,Zaaf,Zadm,Zadn,Zaff,Zafe,Zafc,Zafb,Zaez,Zafi,Zafg,Zacs,Zact,List.map,List.nil_append,List.cons_append,List.append_nil,↓reduceIte,Nat.reduceEqDiff,Nat.reduceLT,dec_T,dec_F,Zack,true_and,and_true,true_implies,implies_true,false_and,and_false,true_or,or_true,false_or,or_false,and_self,or_self,Zacv,Zadd,Zacr,Zacw,Zaae,Nat.add_zero,Nat.mul_one,one1,Option.bind_some,ne_eq,Int.natCast_nonneg,Int.toNat_natCast,not_true_eq_false,not_false_eq_true,Option.map_some,Option.map_none, *,argF,List.getD_cons_zero,List.getD_cons_succ] | (with_reducible first | refine Zadr (by assumption) (by decide +kernel) ?_ | refine Zadq (by decide +kernel) ?_ | refine Zaew (by decide +kernel) ?_ | refine Zadw ?_))

theorem pdqN_runs (f:Value) (H:Heap):∃ u,Runs Try.prog S (.fn 49) [.slice none 0 0,.int .i64 0,.int .i64 0,.int .i64 0,f] H u H:=by
  suffices h:WCall Try.prog S (.fn 49) [.slice none 0 0,.int .i64 0,.int .i64 0,.int .i64 0,f] H (fun u H' => H' = H) by
    obtain ⟨u,_,hr,rfl⟩:=h; exact ⟨u,hr⟩
  obtain ⟨u,hR⟩:=insN_runs hS f H;have f1:=hR.bx;have hw:IntKind.i64.wrap (0 - 0) = 0:=by decide
  have hn:(0:Int) ≤ 12:=by decide
  refine call_of Try.func49 rfl (Nat.le_of_ble_eq_true rfl) (hS.no rfl _ _) ?_
  rw [Try.ntmps49,Try.results49]
  repeat' (first | simp only [↓Zadl,↓Zadf,↓Zadi,↓Zadk,↓Zaas,↓Zaat,↓Zade,↓Zadg,↓Zadh,↓Zadj,↓Zafk,↓Zafj,↓Zaey,↓Zaau,↓Zaeo,↓Zadp,↓Zaer,↓Zado,↓Zadt,↓Zadu,↓Zadv,↓Zaef,↓Zaeg,↓Zaeq,↓Zads,↓Zaev,↓Zadx,↓Zaej,↓Zaei,↓Zaek,↓Zael,↓Zaet,↓Zaec,↓Zaeb,↓Zaee,↓Zaed,↓Zaeu,↓Zaea,↓Zaeh,↓Zaen,↓Zaes,↓Zaep,↓Zady,↓Zaem,↓Zadz,↓Zaex,↓Zafq,↓Zacb,↓Zabt,↓Zaay,↓Zabv,↓Zaav,↓Zaba,↓Zabb,↓Zabc,↓Zabn,↓Zabx,↓Zabu,↓Zaaz,↓Zaby,↓Zabp,↓Zabo,↓Zabq,↓Zabw,↓Zabj,↓Zabi,↓Zabl,↓Zabk,↓Zaax,↓Zabh,↓Zabz,↓Zabm,↓Zabd,↓Zaaw,↓Zabg,↓Zabe,↓Zabr,↓Zabs,↓Zabf,↓Zafn,↓bxPut,↓Zadb,↓Zacz,↓Zadc,↓Zada,↓Zaaq,↓Zaar,↓Zaap,↓Zaao,↓Zacp,↓Zacn,↓Zacq,↓Zaco,↓Zacx,↓Zacy,↓Zafo,↓Zafp,↓Zaca,↓Zafs,↓Zacj,↓Zacg,↓Zaci,↓Zach,↓dstAt,↓Zacl,Zacd,Zacf,Zace,Zaan,eql_str,neq_str,Zaaa,Zaac,Zaab,Zaai,Zaah,Zaaj,Zafm,Zafl,mm_max,mm_min,Zaal,Zaam,Zaak,Zacm,Zafr,una_nt,una_nf,una_neg,Zaag,Zaaf,Zadm,Zadn,Zaff,Zafe,Zafc,Zafb,Zaez,Zafi,Zafg,Zacs,Zact,List.map,List.nil_append,List.cons_append,List.append_nil,↓reduceIte,Nat.reduceEqDiff,Nat.reduceLT,dec_T,dec_F,Zack,true_and,and_true,true_implies,implies_true,false_and,and_false,true_or,or_true,false_or,or_false,and_self,or_self,Zacv,Zadd,Zacr,Zacw,Zaae,Nat.add_zero,Nat.mul_one,one1,Option.bind_some,ne_eq,Int.natCast_nonneg,Int.toNat_natCast,not_true_eq_false,not_false_eq_true,Option.map_some,Option.map_none, *,argF,List.getD_cons_zero,List.getD_cons_succ] | (with_reducible first | refine Zadr (by assumption) (by decide +kernel) ?_ | refine Zadq (by decide +kernel) ?_ | refine Zaew (by decide +kernel) ?_ | refine Zadw ?_))
  refine sxL_of (fun m ρ H1 => H1 = H ∧ ρ 0 = .slice none 0 0 ∧ ρ 1 = .int .i64 0 ∧ ρ 2 = .int .i64 0 ∧ ρ 4 = f) (n:=0) ⟨rfl,rfl,rfl,rfl,rfl⟩ ?_
  rintro m ρ H1 ⟨rfl,e0,e1,e2,e4⟩
  repeat' (first | simp only [↓Zadl,↓Zadf,↓Zadi,↓Zadk,↓Zaas,↓Zaat,↓Zade,↓Zadg,↓Zadh,↓Zadj,↓Zafk,↓Zafj,↓Zaey,↓Zaau,↓Zaeo,↓Zadp,↓Zaer,↓Zado,↓Zadt,↓Zadu,↓Zadv,↓Zaef,↓Zaeg,↓Zaeq,↓Zads,↓Zaev,↓Zadx,↓Zaej,↓Zaei,↓Zaek,↓Zael,↓Zaet,↓Zaec,↓Zaeb,↓Zaee,↓Zaed,↓Zaeu,↓Zaea,↓Zaeh,↓Zaen,↓Zaes,↓Zaep,↓Zady,↓Zaem,↓Zadz,↓Zaex,↓Zafq,↓Zacb,↓Zabt,↓Zaay,↓Zabv,↓Zaav,↓Zaba,↓Zabb,↓Zabc,↓Zabn,↓Zabx,↓Zabu,↓Zaaz,↓Zaby,↓Zabp,↓Zabo,↓Zabq,↓Zabw,↓Zabj,↓Zabi,↓Zabl,↓Zabk,↓Zaax,↓Zabh,↓Zabz,↓Zabm,↓Zabd,↓Zaaw,↓Zabg,↓Zabe,↓Zabr,↓Zabs,↓Zabf,↓Zafn,↓bxPut,↓Zadb,↓Zacz,↓Zadc,↓Zada,↓Zaaq,↓Zaar,↓Zaap,↓Zaao,↓Zacp,↓Zacn,↓Zacq,↓Zaco,↓Zacx,↓Zacy,↓Zafo,↓Zafp,↓Zaca,↓Zafs,↓Zacj,↓Zacg,↓Zaci,↓Zach,↓dstAt,↓Zacl,Zacd,Zacf,Zace,Zaan,eql_str,neq_str,Zaaa,Zaac,Zaab,Zaai,Zaah,Zaaj,Zafm,Zafl,mm_max,mm_min,Zaal,Zaam,Zaak,Zacm,Zafr,una_nt,una_nf,una_neg,Zaag,Zaaf,Zadm,Zadn,Zaff,Zafe,Zafc,Zafb,Zaez,Zafi,Zafg,Zacs,Zact,List.map,List.nil_append,List.cons_append,List.append_nil,↓reduceIte,Nat.reduceEqDiff,Nat.reduceLT,dec_T,dec_F,Zack,true_and,and_true,true_implies,implies_true,false_and,and_false,true_or,or_true,false_or,or_false,and_self,or_self,Zacv,Zadd,Zacr,Zacw,Zaae,Nat.add_zero,Nat.mul_one,one1,Option.bind_some,ne_eq,Int.natCast_nonneg,Int.toNat_natCast,not_true_eq_false,not_false_eq_true,Option.map_some,Option.map_none, *,argF,List.getD_cons_zero,List.getD_cons_succ] | (with_reducible first | refine Zadr (by assumption) (by decide +kernel) ?_ | refine Zadq (by decide +kernel) ?_ | refine Zaew (by decide +kernel) ?_ | refine Zadw ?_))
theorem sortN_runs (f:Value) (H:Heap):∃ u,Runs Try.prog S (.fn 30) [.slice none 0 0,f] H u H:=by
  suffices h:WCall Try.prog S (.fn 30) [.slice none 0 0,f] H (fun u H' => H' = H) by
    obtain ⟨u,_,hr,rfl⟩:=h; exact ⟨u,hr⟩
  obtain ⟨u,hR⟩:=pdqN_runs hS f H;have f1:=hR.bx;have f2:=(bLen_runs hS 0 (by omega) H).bx
  have f2':∀ (K:Value → Heap → Prop) (bl:Blk K),sxCallB Try.prog S (.fn 50) [.int .u64 0] H K bl = K (.int .i64 0) H:=f2;have hw:IntKind.u64.wrap ((0:Nat):Int) = 0:=by decide
  have hw2:((0:Nat):Int) = 0:=rfl;have hw3:IntKind.u64.wrap 0 = 0:=by decide
  clear f2;refine call_of Try.func30 rfl (Nat.le_of_ble_eq_true rfl) (hS.no rfl _ _) ?_
  rw [Try.ntmps30,Try.results30]
  repeat' (first | simp only [↓Zadl,↓Zadf,↓Zadi,↓Zadk,↓Zaas,↓Zaat,↓Zade,↓Zadg,↓Zadh,↓Zadj,↓Zafk,↓Zafj,↓Zaey,↓Zaau,↓Zaeo,↓Zadp,↓Zaer,↓Zado,↓Zadt,↓Zadu,↓Zadv,↓Zaef,↓Zaeg,↓Zaeq,↓Zads,↓Zaev,↓Zadx,↓Zaej,↓Zaei,↓Zaek,↓Zael,↓Zaet,↓Zaec,↓Zaeb,↓Zaee,↓Zaed,↓Zaeu,↓Zaea,↓Zaeh,↓Zaen,↓Zaes,↓Zaep,↓Zady,↓Zaem,↓Zadz,↓Zaex,↓Zafq,↓Zacb,↓Zabt,↓Zaay,↓Zabv,↓Zaav,↓Zaba,↓Zabb,↓Zabc,↓Zabn,↓Zabx,↓Zabu,↓Zaaz,↓Zaby,↓Zabp,↓Zabo,↓Zabq,↓Zabw,↓Zabj,↓Zabi,↓Zabl,↓Zabk,↓Zaax,↓Zabh,↓Zabz,↓Zabm,↓Zabd,↓Zaaw,↓Zabg,↓Zabe,↓Zabr,↓Zabs,↓Zabf,↓Zafn,↓bxPut,↓Zadb,↓Zacz,↓Zadc,↓Zada,↓Zaaq,↓Zaar,↓Zaap,↓Zaao,↓Zacp,↓Zacn,↓Zacq,↓Zaco,↓Zacx,↓Zacy,↓Zafo,↓Zafp,↓Zaca,↓Zafs,↓Zacj,↓Zacg,↓Zaci,↓Zach,↓dstAt,↓Zacl,Zacd,Zacf,Zace,Zaan,eql_str,neq_str,Zaaa,Zaac,Zaab,Zaai,Zaah,Zaaj,Zafm,Zafl,mm_max,mm_min,Zaal,Zaam,Zaak,Zacm,Zafr,una_nt,una_nf,una_neg,Zaag,Zaaf,Zadm,Zadn,Zaff,Zafe,Zafc,Zafb,Zaez,Zafi,Zafg,Zacs,Zact,List.map,List.nil_append,List.cons_append,List.append_nil,↓reduceIte,Nat.reduceEqDiff,Nat.reduceLT,dec_T,dec_F,Zack,true_and,and_true,true_implies,implies_true,false_and,and_false,true_or,or_true,false_or,or_false,and_self,or_self,Zacv,Zadd,Zacr,Zacw,Zaae,Nat.add_zero,Nat.mul_one,one1,Option.bind_some,ne_eq,Int.natCast_nonneg,Int.toNat_natCast,not_true_eq_false,not_false_eq_true,Option.map_some,Option.map_none, *,argF,List.getD_cons_zero,List.getD_cons_succ,lenS,cvI2U] | (with_reducible first | refine Zadr (by assumption) (by decide +kernel) ?_ | refine Zadq (by decide +kernel) ?_ | refine Zaew (by decide +kernel) ?_ | refine Zadw ?_))
end Go.Proofs.Ytmpbapffjapghaa
namespace Go.Proofs.Ytmpbapffjapghaa
open Go Go.AM
set_option maxRecDepth 10000

theorem bs2 (H:Heap) (x y:Int):aBuildSlice Try.prog H 22 2 [(0,.int .i64 x),(1,.int .i64 y)] = some (.slice (some ⟨H.size,0,none⟩) 2 2,H.newExact [.int .i64 x,.int .i64 y] 3):=by kernel_rfl
theorem bs1P (H:Heap) (x:Pt):aBuildSlice Try.prog H 40 1 [(0,.agg ⟨[.int .i64 x.1,.int .i64 x.2]⟩)] = some (.slice (some ⟨H.size,0,none⟩) 1 1,H.newExact (pc x) 43):=by kernel_rfl
theorem two_sl (H:Heap) (x y:Int) (hx:R64 x) (hy:R64 y):SlI .i64 (H.newExact [.int .i64 x,.int .i64 y] 3) (.slice (some ⟨H.size,0,none⟩) [x,y].length 2) [x,y] H.size 0:=by
  exact Own.sl (w:=[x,y]) (Own.new H [.int .i64 x,.int .i64 y] 3) (fun z hz => by
    rcases List.mem_cons.1 hz with e | hz
    · rw [e]; exact hx
    · rw [List.mem_singleton.1 hz]; exact hy) (show 2 ≤ Go.maxLen by decide) 2
theorem elemOkP:ElemOk Try.prog #[40,40] 43 stE.sz:=⟨⟨40,40,_,Try.t43,.agg ⟨[.int .i64 0,.int .i64 0]⟩,rfl,rfl,Try.underlying40,Try.underlying40,rfl,by kernel_rfl,by kernel_rfl,by kernel_rfl,by kernel_rfl,of_decide_eq_true (by kernel_rfl)⟩,by show 0 < 2; decide⟩
theorem cmp3_r (x y:Int):R64 (cmp3 x y):=by unfold cmp3 R64; split <;> (try split) <;> decide

variable {S:AM.Sys} (hS:Only S 5)
include hS

theorem cmpOr_runs (x y:Int) (v:Value) (r o:Nat) (H:Heap) (hl:SlI .i64 H v [x,y] r o):Runs Try.prog S (.fn 32) [v] H (.int .i64 (if x = 0 then y else x)) H:=by
  suffices h:WCall Try.prog S (.fn 32) [v] H (fun u H' => u = .int .i64 (if x = 0 then y else x) ∧ H' = H) by
    obtain ⟨_,_,hr,rfl,rfl⟩:=h; exact hr
  obtain ⟨a,c,rfl⟩:=hl.v0;have hz:∃ z,z = if x = 0 then y else x:=⟨_,rfl⟩
  obtain ⟨z,hz⟩:=hz;rw [← hz];have hl2:((([x,y] : List Int).length:Nat):Int) = 2:=rfl;refine call_of Try.func32 rfl (Nat.le_of_ble_eq_true rfl) (hS.no rfl _ _) ?_
  rw [Try.ntmps32,Try.results32]
  repeat' (first | simp only [↓Zadl,↓Zadf,↓Zadi,↓Zadk,↓Zaas,↓Zaat,↓Zade,↓Zadg,↓Zadh,↓Zadj,↓Zafk,↓Zafj,↓Zaey,↓Zaau,↓Zaeo,↓Zadp,↓Zaer,↓Zado,↓Zadt,↓Zadu,↓Zadv,↓Zaef,↓Zaeg,↓Zaeq,↓Zads,↓Zaev,↓Zadx,↓Zaej,↓Zaei,↓Zaek,↓Zael,↓Zaet,↓Zaec,↓Zaeb,↓Zaee,↓Zaed,↓Zaeu,↓Zaea,↓Zaeh,↓Zaen,↓Zaes,↓Zaep,↓Zady,↓Zaem,↓Zadz,↓Zaex,↓Zafq,↓Zacb,↓Zabt,↓Zaay,↓Zabv,↓Zaav,↓Zaba,↓Zabb,↓Zabc,↓Zabn,↓Zabx,↓Zabu,↓Zaaz,↓Zaby,↓Zabp,↓Zabo,↓Zabq,↓Zabw,↓Zabj,↓Zabi,↓Zabl,↓Zabk,↓Zaax,↓Zabh,↓Zabz,↓Zabm,↓Zabd,↓Zaaw,↓Zabg,↓Zabe,↓Zabr,↓Zabs,↓Zabf,↓Zafn,↓bxPut,↓Zadb,↓Zacz,↓Zadc,↓Zada,↓Zaaq,↓Zaar,↓Zaap,↓Zaao,↓Zacp,↓Zacn,↓Zacq,↓Zaco,↓Zacx,↓Zacy,↓Zafo,↓Zafp,↓Zaca,↓Zafs,↓Zacj,↓Zacg,↓Zaci,↓Zach,↓dstAt,↓Zacl,Zacd,Zacf,Zace,Zaan,eql_str,neq_str,Zaaa,Zaac,Zaab,Zaai,Zaah,Zaaj,Zafm,Zafl,mm_max,mm_min,Zaal,Zaam,Zaak,Zacm,Zafr,una_nt,una_nf,una_neg,Zaag,Zaaf,Zadm,Zadn,Zaff,Zafe,Zafc,Zafb,Zaez,Zafi,Zafg,Zacs,Zact,List.map,List.nil_append,List.cons_append,List.append_nil,↓reduceIte,Nat.reduceEqDiff,Nat.reduceLT,dec_T,dec_F,Zack,true_and,and_true,true_implies,implies_true,false_and,and_false,true_or,or_true,false_or,or_false,and_self,or_self,Zacv,Zadd,Zacr,Zacw,Zaae,Nat.add_zero,Nat.mul_one,one1,Option.bind_some,ne_eq,Int.natCast_nonneg,Int.toNat_natCast,not_true_eq_false,not_false_eq_true,Option.map_some,Option.map_none, *,argF,List.getD_cons_zero,List.getD_cons_succ,lenIs] | (with_reducible first | refine Zadr (by assumption) (by decide +kernel) ?_ | refine Zadq (by decide +kernel) ?_ | refine Zaew (by decide +kernel) ?_ | refine Zadw ?_))
  refine sxL_of (fun m ρ H1 => ∃ k:Nat,m = 2 - k ∧ k ≤ 2 ∧ H1 = H ∧ (0 < k → x = 0) ∧ (1 < k → y = 0) ∧
      ρ 3 = .int .i64 0 ∧ ρ 6 = .slice a ([x,y] : List Int).length c ∧ ρ 7 = .int .i64 2 ∧ ρ 8 = .int .i64 (k:Int))
    ⟨0,rfl,Nat.zero_le _,rfl,fun h => absurd h (Nat.lt_irrefl 0),fun h => by omega,rfl,rfl,rfl,rfl⟩ ?_
  rintro m ρ H1 ⟨k,rfl,hk,rfl,hx,hy,e3,e6,e7,e8⟩
  by_cases hlt:k < 2
  · have hlt':(k:Int) < 2:=by omega
    have hw:IntKind.i64.wrap ((k:Int) + 1) = ((k + 1:Nat):Int):=by rw [IntWalk.i64_in _ (by omega)]; omega
    have hob:=SlI_at hl (show k < ([x,y] : List Int).length from hlt)
    obtain ⟨hix,hrd⟩:=hob;have hgv:∃ q,q = ([x,y] : List Int).getD k 0:=⟨_,rfl⟩;obtain ⟨q,hq⟩:=hgv;rw [← hq] at hrd;have hqv:(k = 0 ∧ q = x) ∨ (k = 1 ∧ q = y):=by
      rcases (show k = 0 ∨ k = 1 by omega) with e | e
      · exact .inl ⟨e,by rw [hq,e]; rfl⟩
      · exact .inr ⟨e,by rw [hq,e]; rfl⟩
    clear hq
    by_cases c1:q = 0
    · have d1:decide (¬ q = 0) = false:=decide_eq_false fun h => h c1
      have hx':0 < k + 1 → x = 0:=fun _ => by
        rcases hqv with ⟨h1,h2⟩ | ⟨h1,h2⟩
        · omega
        · exact hx (by omega)
      have hy':1 < k + 1 → y = 0:=fun h => by
        rcases hqv with ⟨h1,h2⟩ | ⟨h1,h2⟩
        · omega
        · omega
      clear hx hy hqv c1 hl hz hl2
      repeat' (first | simp only [↓Zadl,↓Zadf,↓Zadi,↓Zadk,↓Zaas,↓Zaat,↓Zade,↓Zadg,↓Zadh,↓Zadj,↓Zafk,↓Zafj,↓Zaey,↓Zaau,↓Zaeo,↓Zadp,↓Zaer,↓Zado,↓Zadt,↓Zadu,↓Zadv,↓Zaef,↓Zaeg,↓Zaeq,↓Zads,↓Zaev,↓Zadx,↓Zaej,↓Zaei,↓Zaek,↓Zael,↓Zaet,↓Zaec,↓Zaeb,↓Zaee,↓Zaed,↓Zaeu,↓Zaea,↓Zaeh,↓Zaen,↓Zaes,↓Zaep,↓Zady,↓Zaem,↓Zadz,↓Zaex,↓Zafq,↓Zacb,↓Zabt,↓Zaay,↓Zabv,↓Zaav,↓Zaba,↓Zabb,↓Zabc,↓Zabn,↓Zabx,↓Zabu,↓Zaaz,↓Zaby,↓Zabp,↓Zabo,↓Zabq,↓Zabw,↓Zabj,↓Zabi,↓Zabl,↓Zabk,↓Zaax,↓Zabh,↓Zabz,↓Zabm,↓Zabd,↓Zaaw,↓Zabg,↓Zabe,↓Zabr,↓Zabs,↓Zabf,↓Zafn,↓bxPut,↓Zadb,↓Zacz,↓Zadc,↓Zada,↓Zaaq,↓Zaar,↓Zaap,↓Zaao,↓Zacp,↓Zacn,↓Zacq,↓Zaco,↓Zacx,↓Zacy,↓Zafo,↓Zafp,↓Zaca,↓Zafs,↓Zacj,↓Zacg,↓Zaci,↓Zach,↓dstAt,↓Zacl,Zacd,Zacf,Zace,Zaan,eql_str,neq_str,Zaaa,Zaac,Zaab,Zaai,Zaah,Zaaj,Zafm,Zafl,mm_max,mm_min,Zaal,Zaam,Zaak,Zacm,Zafr,una_nt,una_nf,una_neg,Zaag,Zaaf,Zadm,Zadn,Zaff,Zafe,Zafc,Zafb,Zaez,Zafi,Zafg,Zacs,Zact,List.map,List.nil_append,List.cons_append,List.append_nil,↓reduceIte,Nat.reduceEqDiff,Nat.reduceLT,dec_T,dec_F,Zack,true_and,and_true,true_implies,implies_true,false_and,and_false,true_or,or_true,false_or,or_false,and_self,or_self,Zacv,Zadd,Zacr,Zacw,Zaae,Nat.add_zero,Nat.mul_one,one1,Option.bind_some,ne_eq,Int.natCast_nonneg,Int.toNat_natCast,not_true_eq_false,not_false_eq_true,Option.map_some,Option.map_none, *,lenIs,ldC,one1] | (with_reducible first | refine Zadr (by assumption) (by decide +kernel) ?_ | refine Zadq (by decide +kernel) ?_ | refine Zaew (by decide +kernel) ?_ | refine Zadw ?_))
      exact ⟨2 - (k + 1),by omega,k + 1,rfl,by omega,hx',hy',rfl⟩
    · have d1:decide (¬ q = 0) = true:=decide_eq_true c1;have hzq:z = q:=by
        rcases hqv with ⟨h1,h2⟩ | ⟨h1,h2⟩
        · rw [hz,if_neg (by omega)]; exact h2.symm
        · rw [hz,if_pos (hx (by omega))]; exact h2.symm
      subst hzq;clear hx hy hqv c1 hl hz hl2
      repeat' (first | simp only [↓Zadl,↓Zadf,↓Zadi,↓Zadk,↓Zaas,↓Zaat,↓Zade,↓Zadg,↓Zadh,↓Zadj,↓Zafk,↓Zafj,↓Zaey,↓Zaau,↓Zaeo,↓Zadp,↓Zaer,↓Zado,↓Zadt,↓Zadu,↓Zadv,↓Zaef,↓Zaeg,↓Zaeq,↓Zads,↓Zaev,↓Zadx,↓Zaej,↓Zaei,↓Zaek,↓Zael,↓Zaet,↓Zaec,↓Zaeb,↓Zaee,↓Zaed,↓Zaeu,↓Zaea,↓Zaeh,↓Zaen,↓Zaes,↓Zaep,↓Zady,↓Zaem,↓Zadz,↓Zaex,↓Zafq,↓Zacb,↓Zabt,↓Zaay,↓Zabv,↓Zaav,↓Zaba,↓Zabb,↓Zabc,↓Zabn,↓Zabx,↓Zabu,↓Zaaz,↓Zaby,↓Zabp,↓Zabo,↓Zabq,↓Zabw,↓Zabj,↓Zabi,↓Zabl,↓Zabk,↓Zaax,↓Zabh,↓Zabz,↓Zabm,↓Zabd,↓Zaaw,↓Zabg,↓Zabe,↓Zabr,↓Zabs,↓Zabf,↓Zafn,↓bxPut,↓Zadb,↓Zacz,↓Zadc,↓Zada,↓Zaaq,↓Zaar,↓Zaap,↓Zaao,↓Zacp,↓Zacn,↓Zacq,↓Zaco,↓Zacx,↓Zacy,↓Zafo,↓Zafp,↓Zaca,↓Zafs,↓Zacj,↓Zacg,↓Zaci,↓Zach,↓dstAt,↓Zacl,Zacd,Zacf,Zace,Zaan,eql_str,neq_str,Zaaa,Zaac,Zaab,Zaai,Zaah,Zaaj,Zafm,Zafl,mm_max,mm_min,Zaal,Zaam,Zaak,Zacm,Zafr,una_nt,una_nf,una_neg,Zaag,Zaaf,Zadm,Zadn,Zaff,Zafe,Zafc,Zafb,Zaez,Zafi,Zafg,Zacs,Zact,List.map,List.nil_append,List.cons_append,List.append_nil,↓reduceIte,Nat.reduceEqDiff,Nat.reduceLT,dec_T,dec_F,Zack,true_and,and_true,true_implies,implies_true,false_and,and_false,true_or,or_true,false_or,or_false,and_self,or_self,Zacv,Zadd,Zacr,Zacw,Zaae,Nat.add_zero,Nat.mul_one,one1,Option.bind_some,ne_eq,Int.natCast_nonneg,Int.toNat_natCast,not_true_eq_false,not_false_eq_true,Option.map_some,Option.map_none, *,lenIs,ldC,one1] | (with_reducible first | refine Zadr (by assumption) (by decide +kernel) ?_ | refine Zadq (by decide +kernel) ?_ | refine Zaew (by decide +kernel) ?_ | refine Zadw ?_))
  · have hke:k = 2:=by omega
    subst hke;have hlt':¬ (((2:Nat):Int) < 2):=by decide
    have h0:z = 0:=by rw [hz,if_pos (hx (by omega))]; exact hy (by omega)
    subst h0;clear hx hy hl hz hl2
    repeat' (first | simp only [↓Zadl,↓Zadf,↓Zadi,↓Zadk,↓Zaas,↓Zaat,↓Zade,↓Zadg,↓Zadh,↓Zadj,↓Zafk,↓Zafj,↓Zaey,↓Zaau,↓Zaeo,↓Zadp,↓Zaer,↓Zado,↓Zadt,↓Zadu,↓Zadv,↓Zaef,↓Zaeg,↓Zaeq,↓Zads,↓Zaev,↓Zadx,↓Zaej,↓Zaei,↓Zaek,↓Zael,↓Zaet,↓Zaec,↓Zaeb,↓Zaee,↓Zaed,↓Zaeu,↓Zaea,↓Zaeh,↓Zaen,↓Zaes,↓Zaep,↓Zady,↓Zaem,↓Zadz,↓Zaex,↓Zafq,↓Zacb,↓Zabt,↓Zaay,↓Zabv,↓Zaav,↓Zaba,↓Zabb,↓Zabc,↓Zabn,↓Zabx,↓Zabu,↓Zaaz,↓Zaby,↓Zabp,↓Zabo,↓Zabq,↓Zabw,↓Zabj,↓Zabi,↓Zabl,↓Zabk,↓Zaax,↓Zabh,↓Zabz,↓Zabm,↓Zabd,↓Zaaw,↓Zabg,↓Zabe,↓Zabr,↓Zabs,↓Zabf,↓Zafn,↓bxPut,↓Zadb,↓Zacz,↓Zadc,↓Zada,↓Zaaq,↓Zaar,↓Zaap,↓Zaao,↓Zacp,↓Zacn,↓Zacq,↓Zaco,↓Zacx,↓Zacy,↓Zafo,↓Zafp,↓Zaca,↓Zafs,↓Zacj,↓Zacg,↓Zaci,↓Zach,↓dstAt,↓Zacl,Zacd,Zacf,Zace,Zaan,eql_str,neq_str,Zaaa,Zaac,Zaab,Zaai,Zaah,Zaaj,Zafm,Zafl,mm_max,mm_min,Zaal,Zaam,Zaak,Zacm,Zafr,una_nt,una_nf,una_neg,Zaag,Zaaf,Zadm,Zadn,Zaff,Zafe,Zafc,Zafb,Zaez,Zafi,Zafg,Zacs,Zact,List.map,List.nil_append,List.cons_append,List.append_nil,↓reduceIte,Nat.reduceEqDiff,Nat.reduceLT,dec_T,dec_F,Zack,true_and,and_true,true_implies,implies_true,false_and,and_false,true_or,or_true,false_or,or_false,and_self,or_self,Zacv,Zadd,Zacr,Zacw,Zaae,Nat.add_zero,Nat.mul_one,one1,Option.bind_some,ne_eq,Int.natCast_nonneg,Int.toNat_natCast,not_true_eq_false,not_false_eq_true,Option.map_some,Option.map_none, *,lenIs,ldC,one1] | (with_reducible first | refine Zadr (by assumption) (by decide +kernel) ?_ | refine Zadq (by decide +kernel) ?_ | refine Zaew (by decide +kernel) ?_ | refine Zadw ?_))

end Go.Proofs.Ytmpbapffjapghaa
namespace Go.Proofs.Ytmpbapffjapghaa
open Go Go.AM
set_option maxRecDepth 10000

theorem stableS (L:Nat):Stable stE L:=stable_prod (stable_int _ _) (stable_int _ _)
variable {S:AM.Sys} (hS:Only S 5)
include hS

end Go.Proofs.Ytmpbapffjapghaa
namespace Go.Proofs.Ytmpbapffjapghaa
open Go Go.AM
set_option maxRecDepth 10000

theorem PtsIn.nil {H0 H:Heap} (hk:Keep H0 H) (hg:Grp H0):PtsIn H0 H (.slice none 0 0) ([] : List Pt).toArray:=⟨(fun i hi => absurd hi (Nat.not_lt_zero i)),Nat.zero_le _,hg,hk,.inl ⟨rfl,rfl⟩⟩
theorem bdS (x y:Int):aBuild Try.prog 43 [(0,.int .i64 x),(1,.int .i64 y)] = some (.agg ⟨[.int .i64 x,.int .i64 y]⟩):=by kernel_rfl

variable {S:AM.Sys} (hS:Only S 5)
include hS

end Go.Proofs.Ytmpbapffjapghaa
