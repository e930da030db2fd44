/- Parts, their common divisor. -/
import Derived.Test.YtdfjaoncabanbaaDoorG3
set_option linter.unusedVariables false
set_option linter.unusedSimpArgs false
set_option linter.unusedSectionVars false

namespace Go.Proofs.YtdfjaoncabanbaaDoor.Q
open Go Go.AM
set_option maxRecDepth 10000

/-! Sums. -/
theorem sum_take_succ (w:List Int) {k:Nat} (h:k < w.length):(w.take (k + 1)).sum = (w.take k).sum + w.getD k 0:=by
  rw [List.take_add_one,List.getElem?_eq_getElem h,List.sum_append,List.getD_eq_getElem?_getD,List.getElem?_eq_getElem h];simp
theorem sum_take_le (w:List Int) (hp:∀ x ∈ w,0 ≤ x) (k:Nat):0 ≤ (w.take k).sum ∧ (w.take k).sum ≤ w.sum:=by
  have h0:∀ l:List Int,(∀ x ∈ l,0 ≤ x) → 0 ≤ l.sum:=fun l => by
    induction l with
    | nil => intro _; simp
    | cons a l ih => intro h; rw [List.sum_cons]; have:=ih (fun x hx => h x (List.mem_cons_of_mem _ hx)); have:=h a List.mem_cons_self; omega
  refine ⟨h0 _ fun x hx => hp x (List.mem_of_mem_take hx),?_⟩
  have h1:(w.take k).sum + (w.drop k).sum = w.sum:=by rw [← List.sum_append,List.take_append_drop]
  have:=h0 (w.drop k) fun x hx => hp x (List.mem_of_mem_drop hx)
  omega
theorem sum_le (B:Int) (w:List Int) (h:∀ x ∈ w,x ≤ B):w.sum ≤ w.length * B:=by
  induction w with
  | nil => simp
  | cons a l ih =>
    rw [List.sum_cons,List.length_cons];have h1:=ih fun x hx => h x (List.mem_cons_of_mem _ hx)
    have h2:=h a List.mem_cons_self;have:((l.length + 1:Nat):Int) * B = l.length * B + B:=by rw [Int.natCast_add,Int.add_mul]; simp
    omega

variable {S:AM.Sys} (hS:Only S 5)
include hS


end Go.Proofs.YtdfjaoncabanbaaDoor.Q
namespace Go.Proofs.YtdfjaoncabanbaaDoor.Q
open Go Go.AM
set_option maxRecDepth 10000

def gcdAll (d:Int) (w:List Int):Int:=w.foldl (fun a b => ((Nat.gcd a.toNat b.toNat:Nat):Int)) d
theorem gcdAll_take (d:Int) (w:List Int) {k:Nat} (h:k < w.length):gcdAll d (w.take (k + 1)) = ((Nat.gcd (gcdAll d (w.take k)).toNat (w.getD k 0).toNat:Nat):Int):=by
  unfold gcdAll;rw [List.take_add_one,List.getElem?_eq_getElem h,List.getD_eq_getElem?_getD,List.getElem?_eq_getElem h];rw [List.foldl_append];rfl
theorem gcdAll_pos (d:Int) (w:List Int) (h:0 < d):0 < gcdAll d w ∧ gcdAll d w ≤ d:=by
  unfold gcdAll
  induction w generalizing d with
  | nil => exact ⟨h,Int.le_refl _⟩
  | cons a l ih =>
    have h1:0 < Nat.gcd d.toNat a.toNat:=Nat.gcd_pos_of_pos_left _ (by omega)
    have h2:Nat.gcd d.toNat a.toNat ≤ d.toNat:=Nat.gcd_le_left _ (by omega)
    have:=ih ((Nat.gcd d.toNat a.toNat:Nat):Int) (by omega)
    exact ⟨this.1,by simp only [List.foldl_cons]; omega⟩

theorem fldP0 (r o:Nat):aFieldAt Tryd.prog 27 0 (.pointer (some ⟨r,o,none⟩)) = some (.pointer (some ⟨r,o,none⟩)):=by kernel_rfl
theorem fldP1 (r o:Nat):aFieldAt Tryd.prog 27 1 (.pointer (some ⟨r,o,none⟩)) = some (.pointer (some ⟨r,o + 1,none⟩)):=by kernel_rfl
theorem ldP (H:Heap) (r o:Nat):aLoad Tryd.prog H 27 (.pointer (some ⟨r,o,none⟩)) = (H.read r o 2).map fun l => .agg ⟨l⟩:=by kernel_rfl
theorem cells_agg (l:List Value):(Value.agg ⟨l⟩).cells.toList = l:=rfl
theorem boxP (H:Heap) (v u:Value):∃ H1,H.newExact [v,u] 27 = H1 ∧ Keep H H1 ∧ H.size < H1.size ∧ H1.read H.size 0 2 = some [v,u] ∧ H1.read H.size 0 1 = some [v] ∧ H1.read H.size (0 + 1) 1 = some [u]:=by
  obtain ⟨H1,e1,hK1,hz1,_,hr1⟩:=box1 H [v,u] 27;exact ⟨H1,e1,hK1,hz1,hr1 0 2 (by show 0 + 2 ≤ 2; omega),hr1 0 1 (by show 0 + 1 ≤ 2; omega),hr1 (0 + 1) 1 (by show 0 + 1 + 1 ≤ 2; omega)⟩

theorem sum_takeB' (w:List Int) (B:Int):∀ {k:Nat},k ≤ w.length → (∀ i,i < k → 0 ≤ w.getD i 0 ∧ w.getD i 0 ≤ B) → 0 ≤ (w.take k).sum ∧ (w.take k).sum ≤ k * B
  | 0,_,_ => by simp
  | k + 1,hk,h => by
    have h1:=sum_takeB' w B (k:=k) (by omega) fun i hi => h i (by omega)
    have h2:=h k (by omega)
    rw [sum_take_succ w (by omega)]
    have h3:((k + 1:Nat):Int) * B = k * B + B:=by rw [Int.natCast_add,Int.add_mul]; simp
    omega
variable {S:AM.Sys} (hS:Only S 5)
include hS


end Go.Proofs.YtdfjaoncabanbaaDoor.Q

namespace Go.Proofs.YtdfjaoncabanbaaDoor
open Go Go.AM
set_option maxRecDepth 10000

def Mix (w:List Int) (d n most:Int):Prop:=(w.length:Int) = n ∧ (1 ≤ d ∧ d ≤ most) ∧ (∀ x ∈ w,0 ≤ x ∧ x ≤ d) ∧ w.sum = d ∧ Q.gcdAll d w = 1
instance (w:List Int) (d n most:Int):Decidable (Mix w d n most):=by unfold Mix; infer_instance
theorem nat_int (x y:Int) (hx:0 ≤ x) (hy:0 ≤ y):Nat.gcd x.natAbs y.natAbs = Nat.gcd x.toNat y.toNat:=by
  rw [show x.natAbs = x.toNat by omega,show y.natAbs = y.toNat by omega]

variable {S:AM.Sys} (hS:Only S 5)
include hS

theorem gdv_runs (x y:Int) (H:Heap) (hx:-4611686018427387904 ≤ x ∧ x ≤ 4611686018427387904) (hy:-4611686018427387904 ≤ y ∧ y ≤ 4611686018427387904):∃ H',Keep H H' ∧ Runs Tryd.prog S (.fn 30) [.int .i64 x,.int .i64 y] H (.int .i64 (Nat.gcd x.natAbs y.natAbs:Nat)) H':=by
  suffices h:WCall Tryd.prog S (.fn 30) [.int .i64 x,.int .i64 y] H (fun v H' => v = .int .i64 (Nat.gcd x.natAbs y.natAbs:Nat) ∧ Keep H H') by
    obtain ⟨_,H',hr,rfl,hk⟩:=h; exact ⟨H',hk,hr⟩
  refine Zaaw Tryd.func30 rfl (Nat.le_of_ble_eq_true rfl) (hS.no rfl _ _) ?_
  rw [Tryd.ntmps30,Tryd.results30]
  repeat' simp only [↓Zabo,↓Zabq,↓Zaah,↓Zabl,↓Zabp,↓Zaci,↓Zach,↓Zacn,↓Zaar,↓Zaaj,↓bxOp_un,↓bxOp_max,↓bxPut,↓Zabj,↓Zabh,↓Zacl,↓Zacm,↓Zaba,↓Zaay,Zabf,Nat.reduceLT, *]
  refine sxL_of (fun m ρ H2 => ∃ a b:Int,m = b.natAbs ∧ (-4611686018427387904 ≤ a ∧ a ≤ 4611686018427387904) ∧ (-4611686018427387904 ≤ b ∧ b ≤ 4611686018427387904) ∧ Nat.gcd a.natAbs b.natAbs = Nat.gcd x.natAbs y.natAbs ∧ Keep H H2 ∧ ρ 0 = .int .i64 a ∧ ρ 1 = .int .i64 b)
    ⟨x,y,rfl,hx,hy,rfl,Keep.refl H,rfl,rfl⟩ ?_
  rintro m ρ H2 ⟨a,b,rfl,ha,hb,hG,hK,e0,e1⟩;generalize Nat.gcd x.natAbs y.natAbs = G at *
  by_cases hb0:b = 0
  · subst hb0;have hG2:(G:Int) = max a (0 - a):=by rw [← hG,show (0:Int).natAbs = 0 from rfl,Nat.gcd_zero_right]; omega
    have f1:IntKind.i64.wrap (0 - a) = 0 - a:=IntWalk.i64_in _ (by omega)
    clear hG
    repeat' (first | simp only [↓Zabr,↓Zabm,↓Zabo,↓Zabq,↓Zaag,↓Zabl,↓Zabn,↓Zaci,↓Zach,↓Zacb,↓Zaai,↓Zabz,↓sxDL_assign,↓sxDL_binOp,↓Zacn,↓Zaar,↓Zaaj,↓Zaak,↓bxPut,↓Zabj,↓Zabi,↓Zaaf,↓Zaae,↓Zabe,↓Zabd,↓Zaco,↓Zaba,↓Zaay,Zacj,mm_max,Zaad,Zabc,una_neg,Zacf,↓reduceIte,Nat.reduceEqDiff,Nat.reduceLT,dec_F,and_true,not_true_eq_false, *] | (with_reducible first | refine Zabu (by assumption) (by decide +kernel) ?_ | refine Zabt (by decide +kernel) ?_ | refine Zaca (by decide +kernel) ?_ | refine Zabv ?_))
    refine congrArg _ ?_
    split <;> omega
  · have h1:(a.tmod b).natAbs = a.natAbs % b.natAbs:=Int.natAbs_tmod a b;have h2:a.natAbs % b.natAbs < b.natAbs:=Nat.mod_lt _ (by omega)
    have f1:IntKind.i64.wrap (a.tmod b) = a.tmod b:=IntWalk.i64_in _ (by omega)
    have hg2:Nat.gcd b.natAbs (a.tmod b).natAbs = G:=by
      rw [← hG,h1,Nat.gcd_comm b.natAbs (a.natAbs % b.natAbs),← Nat.gcd_rec,Nat.gcd_comm]
    repeat' (first | simp only [↓Zabr,↓Zabm,↓Zabo,↓Zabq,↓Zaag,↓Zabl,↓Zabn,↓Zaci,↓Zach,↓Zacb,↓Zaai,↓Zabz,↓sxDL_assign,↓sxDL_binOp,↓Zacn,↓Zaar,↓Zaaj,↓Zaak,↓bxPut,↓Zabj,↓Zabi,↓Zaaf,↓Zaae,↓Zabe,↓Zabd,↓Zaco,↓Zaba,↓Zaay,Zacj,Zaad,Zabc,Zacg,↓reduceIte,Nat.reduceEqDiff,Nat.reduceLT,dec_T,size_relow,low_relow,relow_relow,ne_eq,not_false_eq_true, *] | (with_reducible first | refine Zabu (by assumption) (by decide +kernel) ?_ | refine Zabt (by decide +kernel) ?_ | refine Zaca (by decide +kernel) ?_ | refine Zabv ?_))
    refine ⟨_,?_,b,a.tmod b,rfl,hb,by omega,hg2,?_,rfl,?_⟩
    · omega
    · have z1:min H.low H.size ≤ H2.size:=Nat.le_trans (Nat.min_le_right _ _) hK.size;exact { size:=hK.size,low:=fun _ => Nat.min_le_right _ _,lo:=by repeat' (first | exact hK.lo | exact z1 | refine Nat.le_min.2 ⟨?_,?_⟩),row:=hK.row,grp:=hK.grp,mem:=hK.mem }
    · rfl

theorem cdivI_runs (v:Value) (w:List Int) (d:Int) (r o:Nat) (H:Heap) (hl:SlI .i64 H v w r o) (hp:∀ x ∈ w,0 ≤ x ∧ x ≤ 2199023255552) (hd:0 < d ∧ d ≤ 2199023255552):∃ H',Keep H H' ∧ Runs Tryd.prog S (.fn 31) [.agg ⟨[v,.int .i64 d]⟩] H (.int .i64 (Q.gcdAll d w)) H':=by
  suffices h:WCall Tryd.prog S (.fn 31) [.agg ⟨[v,.int .i64 d]⟩] H (fun v H' => v = .int .i64 (Q.gcdAll d w) ∧ Keep H H') by
    obtain ⟨_,H',hr,rfl,hk⟩:=h; exact ⟨H',hk,hr⟩
  obtain ⟨a,cap,rfl⟩:=hl.v0;refine Zaaw Tryd.func31 rfl (Nat.le_of_ble_eq_true rfl) (hS.no rfl _ _) ?_
  rw [Tryd.ntmps31,Tryd.results31];obtain ⟨H1,e1,hK1,hz1,rd2,rd0,rd1⟩:=Q.boxP H (.slice a w.length cap) (.int .i64 d)
  repeat' simp only [↓Zabo,↓Zabq,↓Zaah,↓Zabl,↓Zabp,↓Zaci,↓Zach,↓Zacn,↓Zaar,↓Zaaj,↓Zaal,↓Zaaq,↓Zaan,↓Zaap,↓bxPut,↓Zabj,↓Zabh,↓Zacl,↓Zacm,↓Zaco,↓Zaba,↓Zaay,Zacj,Zabf,↓reduceIte,Nat.reduceEqDiff,Nat.reduceLT,one1,Option.bind_some, *,argF,List.getD_cons_zero,lenI,Q.cells_agg,Q.fldP0,Q.fldP1,ldI,ldIs]
  refine sxL_of (fun m ρ H2 => ∃ k:Nat,m = w.length - k ∧ k ≤ w.length ∧ Keep H H2 ∧ ρ 3 = .int .i64 (Q.gcdAll d (w.take k)) ∧ ρ 9 = .slice a w.length cap ∧ ρ 10 = .int .i64 w.length ∧ ρ 11 = .int .i64 k)
    ⟨0,rfl,Nat.zero_le _,hK1,rfl,rfl,rfl,rfl⟩ ?_
  clear e1 rd0 rd1 rd2 hK1 hz1;rintro m ρ H2 ⟨k,rfl,hk,hK,e3,e9,e10,e11⟩
  by_cases hlt:k < w.length
  · have hl2:=hl.keep hK;have hix:=SlI_ix hl2 hlt;have hrd:=(hl2.rdI hlt).1;have hw:=wrap_succ hlt hl.ml;have hlt':(k:Int) < (w.length:Int):=by omega
    have g1:=Q.gcdAll_take d w hlt;have g2:=Q.gcdAll_pos d (w.take k) hd.1;have g3:=hp _ (getD_mem (d:=0) hlt);obtain ⟨D,hD⟩:∃ D,Q.gcdAll d (w.take k) = D:=⟨_,rfl⟩;obtain ⟨x,hx⟩:∃ x,w.getD k 0 = x:=⟨_,rfl⟩;rw [hD] at g1 g2 e3;rw [hx] at g1 g3 hrd;obtain ⟨H3,k3,R3⟩:=gdv_runs hS D x H2 (by omega) (by omega)
    rw [nat_int D x (by omega) (by omega),← g1] at R3
    have f3:=R3.bx;have k03:=hK.trans k3;clear hl hl2 R3 hD hx g1 g2 g3 hK k3 hp hd
    repeat' simp only [↓Zabr,↓Zabo,↓Zabq,↓Zaag,↓Zabl,↓Zabn,↓Zaci,↓Zach,↓Zacn,↓Zaar,↓Zaaj,↓Zaaq,↓Zaak,↓Zaao,↓Zaau,↓bxPut,↓Zabj,↓Zabi,↓Zaaf,↓Zaae,↓Zabe,↓Zabd,↓Zaco,↓Zaba,↓Zaay,↓Zaaz,Zacj,Zaad,Zabc,Zabs,Zacg,List.map,List.nil_append,List.append_nil,↓reduceIte,Nat.reduceEqDiff,Nat.reduceLT,dec_T,true_and,one1,Option.bind_some, *,ldI]
    exact ⟨w.length - (k + 1),by omega,k + 1,rfl,by omega,rfl,rfl⟩
  · have hlt':¬ (k:Int) < (w.length:Int):=by omega
    obtain rfl:k = w.length:=by omega
    have g:Q.gcdAll d (w.take w.length) = Q.gcdAll d w:=by rw [List.take_length]
    clear hl hp hd
    repeat' simp only [↓Zabr,↓Zabo,↓Zabq,↓Zaag,↓Zabl,↓Zabn,↓Zaci,↓Zach,↓Zacn,↓Zaar,↓Zaaj,↓Zaaq,↓Zaak,↓Zaao,↓Zaau,↓bxPut,↓Zabj,↓Zabi,↓Zaaf,↓Zaae,↓Zabe,↓Zabd,↓Zaco,↓Zaba,↓Zaay,↓Zaaz,Zacj,Zaad,Zabc,Zabs,Zacf,List.nil_append,↓reduceIte,Nat.reduceEqDiff,Nat.reduceLT,dec_F,and_self, *]
end Go.Proofs.YtdfjaoncabanbaaDoor
