/- What quota and the reference check of an estate and claims, on the canonical machine: what each function comes to, for all arguments. -/
import Derived.Test.YtpeoleimmabceaaGreatProg
import Derived.KernelRfl
import Derived.Test.YtpeoleimmabceaaGreatGj
set_option linter.unusedVariables false
set_option linter.unusedSimpArgs false
set_option linter.unusedSectionVars false

namespace Go.Proofs.YtpeoleimmabceaaGreat.Q
open Go Go.AM
set_option maxRecDepth 10000

/-! The words of the program. -/
theorem ldI (H:Heap) (r o:Nat):aLoad Tryz.prog H 3 (.pointer (some ⟨r,o,none⟩)) = (H.read r o 1).bind one1:=by kernel_rfl
theorem lenI (a:Option Addr) (n c:Nat):aLen Tryz.prog #[22] (.slice a n c) = some (.int .i64 n):=by kernel_rfl
theorem ixI (r o n c:Nat) (k:IntKind) (i:Int):aIndexAt Tryz.prog 22 (.slice (some ⟨r,o,none⟩) n c) (.int k i) = if 0 ≤ i ∧ i < (n:Int) then some (.pointer (some ⟨r,o + i.toNat * 1,none⟩)) else none:=by kernel_rfl
theorem SlI_ix {H:Heap} {w:List Int} {r o:Nat} {a:Option Addr} {cap:Nat} (h:SlI .i64 H (.slice a w.length cap) w r o) {k:Nat} (h1:k < w.length) :
    aIndexAt Tryz.prog 22 (.slice a w.length cap) (.int .i64 (k:Int)) = some (.pointer (some ⟨r,o + k,none⟩)):=by
  obtain ⟨a',cap',e,ha⟩:=h.isv;cases e;rw [ha (by omega),ixI,if_pos ⟨by omega,by omega⟩,Int.toNat_natCast,Nat.mul_one]

/-! Sums. -/
theorem sum_take_succ (w:List Int) {k:Nat} (h:k < w.length):(w.take (k + 1)).sum = (w.take k).sum + w.getD k 0:=by
  rw [List.take_add_one,List.getElem?_eq_getElem h,List.sum_append,List.getD_eq_getElem?_getD,List.getElem?_eq_getElem h];simp
theorem sum_take_le (w:List Int) (hp:∀ x ∈ w,0 ≤ x) (k:Nat):0 ≤ (w.take k).sum ∧ (w.take k).sum ≤ w.sum:=by
  have h0:∀ l:List Int,(∀ x ∈ l,0 ≤ x) → 0 ≤ l.sum:=fun l => by
    induction l with
    | nil => intro _; simp
    | cons a l ih => intro h; rw [List.sum_cons]; have:=ih (fun x hx => h x (List.mem_cons_of_mem _ hx)); have:=h a List.mem_cons_self; omega
  refine ⟨h0 _ fun x hx => hp x (List.mem_of_mem_take hx),?_⟩
  have h1:(w.take k).sum + (w.drop k).sum = w.sum:=by rw [← List.sum_append,List.take_append_drop]
  have:=h0 (w.drop k) fun x hx => hp x (List.mem_of_mem_drop hx)
  omega
theorem sum_le (B:Int) (w:List Int) (h:∀ x ∈ w,x ≤ B):w.sum ≤ w.length * B:=by
  induction w with
  | nil => simp
  | cons a l ih =>
    rw [List.sum_cons,List.length_cons];have h1:=ih fun x hx => h x (List.mem_cons_of_mem _ hx)
    have h2:=h a List.mem_cons_self;have:((l.length + 1:Nat):Int) * B = l.length * B + B:=by rw [Int.natCast_add,Int.add_mul]; simp
    omega

variable {S:AM.Sys} (hS:Only S 5)
include hS

theorem isWithin_runs (n a b:Int) (H:Heap):Runs Tryz.prog S (.fn 34) [.int .i64 n,.int .i64 a,.int .i64 b] H (.bool (decide (a ≤ n ∧ n ≤ b))) H:=by
  suffices h:WCall Tryz.prog S (.fn 34) [.int .i64 n,.int .i64 a,.int .i64 b] H (fun v H' => v = .bool (decide (a ≤ n ∧ n ≤ b)) ∧ H' = H) by
    obtain ⟨_,_,hr,rfl,rfl⟩:=h; exact hr
  refine Zaaw Tryz.func34 rfl (Nat.le_of_ble_eq_true rfl) (hS.no rfl _ _) ?_
  rw [Tryz.ntmps34,Tryz.results34]
  repeat' (first | (with_reducible refine Zacf (fun h => ?_) (fun h => ?_)) | (with_reducible refine Zace (fun h => ?_) (fun h => ?_)) | (with_reducible refine sxIfB_sp (fun h => ?_) (fun h => ?_)) | simp only [↓Zabp,↓Zabr,↓Zabq,↓Zacj,↓Zaci,↓Zaco,↓Zaav,↓Zaaq,↓Zaaj,↓Zaar,↓Zaak,↓bxPut,↓Zabk,↓Zabi,↓Zacm,↓Zacn,↓Zacp,↓Zaba,↓Zaay,↓dstAt,↓Zabc,Zack,Zaab,Zabd,aPick_true,aPick_false,sxGuardB_tt,sxGuardB_tf,Zabg,↓reduceIte,Nat.reduceEqDiff,Nat.reduceLT,dec_T,dec_F,true_and,false_and,and_self, *,argF,List.getD_cons_zero,List.getD_cons_succ])

theorem isProblemL_runs (n:Int) (H:Heap):Runs Tryz.prog S (.fn 36) [.int .i64 n] H (.bool (decide (¬ (0 ≤ n ∧ n ≤ 100000)))) H:=by
  suffices h:WCall Tryz.prog S (.fn 36) [.int .i64 n] H (fun v H' => v = .bool (decide (¬ (0 ≤ n ∧ n ≤ 100000))) ∧ H' = H) by
    obtain ⟨_,_,hr,rfl,rfl⟩:=h; exact hr
  refine Zaaw Tryz.func36 rfl (Nat.le_of_ble_eq_true rfl) (hS.no rfl _ _) ?_
  rw [Tryz.ntmps36,Tryz.results36];have hb:=(isWithin_runs hS n 0 100000 H).bx
  repeat' (first | (with_reducible refine Zacf (fun h => ?_) (fun h => ?_)) | (with_reducible refine Zace (fun h => ?_) (fun h => ?_)) | (with_reducible refine sxIfB_sp (fun h => ?_) (fun h => ?_)) | simp only [↓Zabp,↓Zabr,↓Zabq,↓Zacj,↓Zaci,↓Zaco,↓Zaaq,↓Zaaj,↓bxOp_un,↓Zaat,↓bxPut,↓Zabk,↓Zabi,↓Zacm,↓Zacn,↓Zacp,↓Zaba,↓Zaay,↓Zaaz,Zack,una_not_dec,Zabt,Zabg,List.map_cons,List.map_nil,List.nil_append,List.append_nil,↓reduceIte,Nat.reduceEqDiff,Nat.reduceLT,and_self, *,argF,List.getD_cons_zero])

theorem total_runs (v:Value) (w:List Int) (r o:Nat) (H:Heap) (hl:SlI .i64 H v w r o) (hp:∀ x ∈ w,0 ≤ x) (hs:w.sum ≤ 9223372036854775807):Runs Tryz.prog S (.fn 37) [v] H (.int .i64 w.sum) H:=by
  suffices h:WCall Tryz.prog S (.fn 37) [v] H (fun v H' => v = .int .i64 w.sum ∧ H' = H) by
    obtain ⟨_,_,hr,rfl,rfl⟩:=h; exact hr
  obtain ⟨a,cap,rfl⟩:=hl.v0;refine Zaaw Tryz.func37 rfl (Nat.le_of_ble_eq_true rfl) (hS.no rfl _ _) ?_
  rw [Tryz.ntmps37,Tryz.results37]
  repeat' (first | (with_reducible refine Zacf (fun h => ?_) (fun h => ?_)) | (with_reducible refine Zace (fun h => ?_) (fun h => ?_)) | (with_reducible refine sxIfB_sp (fun h => ?_) (fun h => ?_)) | simp only [↓Zabp,↓Zabr,↓Zaaf,↓Zabm,↓Zabq,↓Zacj,↓Zaci,↓Zaco,↓Zaaq,↓Zaaj,↓Zaao,↓bxPut,↓Zabk,↓Zabi,↓Zacm,↓Zacn,↓Zacp,↓Zaba,↓Zaay,Zack,Zabg,↓reduceIte,Nat.reduceEqDiff,Nat.reduceLT, *,argF,List.getD_cons_zero,lenI])
  refine sxL_of (fun m ρ H1 => ∃ k:Nat,m = w.length - k ∧ k ≤ w.length ∧ H1 = H ∧ ρ 3 = .int .i64 (w.take k).sum ∧ ρ 6 = .slice a w.length cap ∧ ρ 7 = .int .i64 w.length ∧ ρ 8 = .int .i64 k)
    ⟨0,rfl,Nat.zero_le _,rfl,rfl,rfl,rfl,rfl⟩ ?_
  rintro m ρ H1 ⟨k,rfl,hk,rfl,e3,e6,e7,e8⟩
  by_cases hlt:k < w.length
  · have hix:=SlI_ix hl hlt;have hrd:=(hl.rdI hlt).1;have hw:=wrap_succ hlt hl.ml;have hlt':(k:Int) < (w.length:Int):=by omega
    have g1:=sum_take_succ w hlt;have g2:=sum_take_le w hp (k + 1);have g3:IntKind.i64.wrap ((w.take k).sum + w.getD k 0) = (w.take (k + 1)).sum:=by rw [← g1]; exact IntWalk.i64_in _ (by omega)
    clear hl g1 g2
    repeat' (first | (with_reducible refine Zacf (fun h => ?_) (fun h => ?_)) | (with_reducible refine Zace (fun h => ?_) (fun h => ?_)) | (with_reducible refine sxIfB_sp (fun h => ?_) (fun h => ?_)) | simp only [↓Zabs,↓Zabp,↓Zabr,↓Zaae,↓Zabm,↓Zabo,↓Zacj,↓Zaci,↓Zaco,↓Zaaq,↓Zaaj,↓Zaap,↓Zaak,↓Zaan,↓bxPut,↓Zabk,↓Zabj,↓Zaad,↓Zaac,↓Zabf,↓Zabe,↓Zacp,↓Zaba,↓Zaay,Zack,Zaab,Zabd,Zach,↓reduceIte,Nat.reduceEqDiff,Nat.reduceLT,dec_T,true_and,one1,Option.bind_some, *,ldI])
    exact ⟨_,by omega,k + 1,rfl,by omega,rfl,rfl⟩
  · have hlt':¬ (k:Int) < (w.length:Int):=by omega
    obtain rfl:k = w.length:=by omega
    have g:(w.take w.length).sum = w.sum:=by rw [List.take_length]
    clear hl
    repeat' (first | (with_reducible refine Zacf (fun h => ?_) (fun h => ?_)) | (with_reducible refine Zace (fun h => ?_) (fun h => ?_)) | (with_reducible refine sxIfB_sp (fun h => ?_) (fun h => ?_)) | simp only [↓Zabs,↓Zabp,↓Zabr,↓Zaae,↓Zabm,↓Zabo,↓Zacj,↓Zaci,↓Zaco,↓Zaaq,↓Zaaj,↓Zaap,↓Zaak,↓Zaan,↓bxPut,↓Zabk,↓Zabj,↓Zaad,↓Zaac,↓Zabf,↓Zabe,↓Zacp,↓Zaba,↓Zaay,Zack,Zaab,Zabd,Zacg,↓reduceIte,Nat.reduceEqDiff,Nat.reduceLT,dec_F,and_self, *])

theorem ifInt_runs (p:Int → Prop) [DecidablePred p] (v:Value) (w:List Int) (r o:Nat) (H:Heap) (hl:SlI .i64 H v w r o)
    {g:FuncId} {cs:List Value} (hp:∀ H1,Keep H H1 → ∀ z,∃ H2,Keep H1 H2 ∧ Runs Tryz.prog S (.fn g) (.int .i64 z :: cs) H1 (.bool (decide (p z))) H2) :
    ∃ H' k,Keep H H' ∧ Runs Tryz.prog S (.fn 66) [v,.func (.func g) #[] ⟨cs⟩] H (.int .i64 k) H' ∧ ((k = -1 ∧ ∀ x ∈ w,¬ p x) ∨ (∃ j:Nat,k = j ∧ j < w.length ∧ p (w.getD j 0) ∧ ∀ i,i < j → ¬ p (w.getD i 0))):=by
  suffices h:WCall Tryz.prog S (.fn 66) [v,.func (.func g) #[] ⟨cs⟩] H (fun v H' => ∃ k,v = .int .i64 k ∧ Keep H H' ∧ ((k = -1 ∧ ∀ x ∈ w,¬ p x) ∨ (∃ j:Nat,k = j ∧ j < w.length ∧ p (w.getD j 0) ∧ ∀ i,i < j → ¬ p (w.getD i 0)))) by
    obtain ⟨_,H',hr,k,rfl,hk,hi⟩:=h; exact ⟨H',k,hk,hr,hi⟩
  obtain ⟨a,cap,rfl⟩:=hl.v0;refine Zaaw Tryz.func66 rfl (Nat.le_of_ble_eq_true rfl) (hS.no rfl _ _) ?_
  rw [Tryz.ntmps66,Tryz.results66]
  repeat' (first | (with_reducible refine Zacf (fun h => ?_) (fun h => ?_)) | (with_reducible refine Zace (fun h => ?_) (fun h => ?_)) | (with_reducible refine sxIfB_sp (fun h => ?_) (fun h => ?_)) | simp only [↓Zabp,↓Zabr,↓Zaaf,↓Zabm,↓Zabq,↓Zacj,↓Zaci,↓Zaco,↓Zaaq,↓Zaaj,↓Zaao,↓bxPut,↓Zabk,↓Zabi,↓Zacm,↓Zacn,↓Zacp,↓Zaba,↓Zaay,Zack,Zabg,↓reduceIte,Nat.reduceEqDiff,Nat.reduceLT, *,argF,List.getD_cons_zero,lenI])
  refine sxL_of (fun m ρ H1 => ∃ k:Nat,m = w.length - k ∧ k ≤ w.length ∧ Keep H H1 ∧ (∀ j,j < k → ¬ p (w.getD j 0)) ∧ ρ 0 = .slice a w.length cap ∧
    ρ 1 = .func (.func g) #[] ⟨cs⟩ ∧ ρ 7 = .int .i64 w.length ∧ ρ 8 = .int .i64 k) ⟨0,rfl,Nat.zero_le _,Keep.refl _,fun j hj => absurd hj (Nat.not_lt_zero j),rfl,rfl,rfl,rfl⟩ ?_
  rintro m ρ H1 ⟨k,rfl,hk,hK,hall,e0,e1,e7,e8⟩;have hl1:=hl.keep hK;have hix:=fun h:k < w.length => SlI_ix hl1 h
  have hrd:=fun h:k < w.length => (hl1.rdI h).1
  obtain ⟨H2,hK2,hr2⟩:=hp H1 hK (w.getD k 0);have hb:=hr2.bx
  by_cases hlt:k < w.length
  · have hix:=hix hlt;have hrd:=hrd hlt;have hw:=wrap_succ hlt hl.ml;have hlt':(k:Int) < (w.length:Int):=by omega
    clear hl1 hr2
    repeat' (first | (with_reducible refine Zacf (fun h => ?_) (fun h => ?_)) | (with_reducible refine Zace (fun h => ?_) (fun h => ?_)) | (with_reducible refine sxIfB_sp (fun h => ?_) (fun h => ?_)) | simp only [↓Zabs,↓Zabp,↓Zabr,↓Zaae,↓Zabm,↓Zabo,↓Zabq,↓Zacj,↓Zaci,↓Zaco,↓Zaaq,↓Zaaj,↓Zaap,↓Zaak,↓Zaan,↓Zaat,↓bxPut,↓Zabk,↓Zabj,↓Zabl,↓Zaad,↓blockQ_ret,↓Zaac,↓Zabf,↓Zabe,↓loopQ_ret,↓Zabi,↓Zacm,↓Zacn,↓Zacp,↓Zaba,↓Zaay,Zack,Zaab,Zabd,Zabt,Zach,Zabg,List.map_cons,List.map_nil,List.nil_append,List.cons_append,↓reduceIte,Nat.reduceEqDiff,Nat.reduceLT,dec_T,true_and,one1,Option.bind_some, *,ldI])
    · exact ⟨k,rfl,hK.trans hK2,.inr ⟨k,rfl,hlt,‹_›,hall⟩⟩
    · exact ⟨_,by omega,k + 1,rfl,by omega,hK.trans hK2,fun j hj => by
        rcases Nat.lt_or_ge j k with h | h
        · exact hall j h
        · rw [show j = k by omega]; assumption,rfl⟩
  · have hlt':¬ (k:Int) < (w.length:Int):=by omega
    clear hl1 hr2;obtain rfl:k = w.length:=by omega
    repeat' (first | (with_reducible refine Zacf (fun h => ?_) (fun h => ?_)) | (with_reducible refine Zace (fun h => ?_) (fun h => ?_)) | (with_reducible refine sxIfB_sp (fun h => ?_) (fun h => ?_)) | simp only [↓Zabs,↓Zabp,↓Zabr,↓Zaae,↓Zabm,↓Zabo,↓Zabq,↓Zacj,↓Zaci,↓Zaco,↓Zaaq,↓Zaaj,↓Zaap,↓Zaak,↓Zaan,↓Zaat,↓bxPut,↓Zabk,↓Zabj,↓Zabl,↓Zaad,↓blockQ_ret,↓Zaac,↓Zabf,↓Zabe,↓loopQ_ret,↓Zabi,↓Zacm,↓Zacn,↓Zacp,↓Zaba,↓Zaay,Zack,Zaab,Zabd,Zacg,Zabg,↓reduceIte,Nat.reduceLT,dec_F,true_and, *])
    exact ⟨-1,rfl,.inl ⟨rfl,all_of hall⟩⟩

theorem cfInt_runs (p:Int → Prop) [DecidablePred p] (v:Value) (w:List Int) (r o:Nat) (H:Heap) (hl:SlI .i64 H v w r o)
    {g:FuncId} {cs:List Value} (hp:∀ H1,Keep H H1 → ∀ z,∃ H2,Keep H1 H2 ∧ Runs Tryz.prog S (.fn g) (.int .i64 z :: cs) H1 (.bool (decide (p z))) H2) :
    ∃ H',Keep H H' ∧ Runs Tryz.prog S (.fn 35) [v,.func (.func g) #[] ⟨cs⟩] H (.bool (decide (¬ ∀ x ∈ w,¬ p x))) H':=by
  obtain ⟨H',k,hK,hR,hk⟩:=ifInt_runs hS p v w r o H hl hp;refine ⟨H',hK,?_⟩;have hk':0 ≤ k ↔ ¬ ∀ x ∈ w,¬ p x:=by
    rcases hk with ⟨rfl,h⟩ | ⟨j,rfl,h1,h2,h3⟩
    · exact ⟨fun h => by omega,fun hn => absurd h hn⟩
    · exact ⟨fun _ hn => hn _ (Zabb h1) h2,fun _ => by omega⟩
  suffices h:WCall Tryz.prog S (.fn 35) [v,.func (.func g) #[] ⟨cs⟩] H (fun v' H1 => v' = .bool (decide (¬ ∀ x ∈ w,¬ p x)) ∧ H1 = H') by
    obtain ⟨_,_,hr,rfl,rfl⟩:=h; exact hr
  refine Zaaw Tryz.func35 rfl (Nat.le_of_ble_eq_true rfl) (hS.no rfl _ _) ?_
  rw [Tryz.ntmps35,Tryz.results35];have hb:=hR.bx;clear hR hp
  repeat' (first | (with_reducible refine Zacf (fun h => ?_) (fun h => ?_)) | (with_reducible refine Zace (fun h => ?_) (fun h => ?_)) | (with_reducible refine sxIfB_sp (fun h => ?_) (fun h => ?_)) | simp only [↓Zabp,↓Zabr,↓Zabq,↓Zacj,↓Zaci,↓Zaco,↓Zaaq,↓Zaaj,↓Zaak,↓Zaat,↓bxPut,↓Zabk,↓Zabi,↓Zacm,↓Zacn,↓Zacp,↓Zaba,↓Zaay,↓Zaaz,Zack,Zaab,Zabd,Zabt,Zabg,List.map_cons,List.map_nil,List.nil_append,List.append_nil,↓reduceIte,Nat.reduceEqDiff,Nat.reduceLT,and_self, *,argF,List.getD_cons_zero,List.getD_cons_succ])
  all_goals first
    | exact bool_d hk'
    | skip


def Prob (e:Int) (c:List Int):Prop:=(0 ≤ e ∧ e ≤ 100000) ∧ (1 ≤ (c.length:Int) ∧ (c.length:Int) ≤ 7) ∧ (∀ x ∈ c,0 ≤ x ∧ x ≤ 100000) ∧ e ≤ c.sum
instance (e:Int) (c:List Int):Decidable (Prob e c):=by unfold Prob; infer_instance

theorem isProblem_runs (e:Int) (v:Value) (w:List Int) (r o:Nat) (H:Heap) (hl:SlI .i64 H v w r o) :
    ∃ H',Keep H H' ∧ Runs Tryz.prog S (.fn 14) [.int .i64 e,v] H (.bool (decide (Prob e w))) H':=by
  suffices h:WCall Tryz.prog S (.fn 14) [.int .i64 e,v] H (fun v H' => v = .bool (decide (Prob e w)) ∧ Keep H H') by
    obtain ⟨_,H',hr,rfl,hk⟩:=h; exact ⟨H',hk,hr⟩
  obtain ⟨a,cap,rfl⟩:=hl.v0;refine Zaaw Tryz.func14 rfl (Nat.le_of_ble_eq_true rfl) (hS.no rfl _ _) ?_
  rw [Tryz.ntmps14,Tryz.results14];obtain ⟨H2,hK2,hR2⟩:=cfInt_runs hS (fun n => ¬ (0 ≤ n ∧ n ≤ 100000)) _ w r o H hl (g:=36) (cs:=[]) fun H1 _ z => ⟨H1,Keep.refl _,isProblemL_runs hS z H1⟩
  have hb:=hR2.bx;have hb1:=(isWithin_runs hS e 0 100000 H).bx;have hb2:=(isWithin_runs hS (w.length:Int) 1 7 H).bx;have hy:notYield (.func 36) = true:=rfl;clear hR2
  by_cases hw:∀ x ∈ w,0 ≤ x ∧ x ≤ 100000
  · have hw':∀ x ∈ w,¬¬ (0 ≤ x ∧ x ≤ 100000):=fun x hx h => h (hw x hx)
    by_cases hn:w.length ≤ 7
    · have hs:=sum_le 100000 w fun x hx => (hw x hx).2
      have hb3:=(total_runs hS _ w r o H2 (hl.keep hK2) (fun x hx => (hw x hx).1) (by omega)).bx
      clear hs
      repeat' (first | (with_reducible refine Zacf (fun h => ?_) (fun h => ?_)) | (with_reducible refine Zace (fun h => ?_) (fun h => ?_)) | (with_reducible refine sxIfB_sp (fun h => ?_) (fun h => ?_)) | simp only [↓Zabs,↓Zabp,↓Zabr,↓Zaae,↓Zabq,↓Zacj,↓Zaci,↓Zaco,↓Zaav,↓Zaaq,↓Zaaj,↓Zaar,↓Zaak,↓bxOp_un,↓Zaat,↓Zaao,↓bxPut,↓Zabk,↓Zabl,↓Zabi,↓Zacm,↓Zacn,↓Zacp,↓Zaba,↓Zaay,↓Zaaz,↓dstAt,↓Zabc,Zack,Zaab,Zabd,una_not_dec,aPick_true,aPick_false,Zabt,sxGuardB_ft,sxGuardB_ff,Zach,Zabg,List.map_cons,List.map_nil,List.nil_append,List.append_nil,↓reduceIte,Nat.reduceEqDiff,Nat.reduceLT,dec_T,dec_F,and_true,not_false_eq_true, *,argF,List.getD_cons_zero,List.getD_cons_succ,lenI])
      all_goals first
        | exact ⟨bool_f fun hp => absurd hp.1 ‹_›,Keep.refl _⟩
        | exact ⟨bool_f fun hp => absurd hp.2.1 ‹_›,Keep.refl _⟩
        | exact ⟨bool_f fun hp => hn2 hp.2.1.2,Keep.refl _⟩
        | exact bool_f fun hp => hw hp.2.2.1
        | exact bool_f fun hp => absurd hw' ‹_›
        | exact bool_d ⟨fun hh => hh.2.2.2,fun hh => ⟨Decidable.not_not.1 ‹¬¬(0 ≤ e ∧ e ≤ 100000)›,Decidable.not_not.1 ‹¬¬(1 ≤ (w.length:Int) ∧ (w.length:Int) ≤ 7)›,hw,hh⟩⟩
        | exact bool_d ⟨fun hh => ⟨Decidable.not_not.1 ‹¬¬(0 ≤ e ∧ e ≤ 100000)›,Decidable.not_not.1 ‹¬¬(1 ≤ (w.length:Int) ∧ (w.length:Int) ≤ 7)›,hw,hh⟩,fun hh => hh.2.2.2⟩
    · have hn2:¬ (w.length:Int) ≤ 7:=by omega
      repeat' (first | (with_reducible refine Zacf (fun h => ?_) (fun h => ?_)) | (with_reducible refine Zace (fun h => ?_) (fun h => ?_)) | (with_reducible refine sxIfB_sp (fun h => ?_) (fun h => ?_)) | simp only [↓Zabs,↓Zabp,↓Zabr,↓Zaae,↓Zabq,↓Zacj,↓Zaci,↓Zaco,↓Zaav,↓Zaaq,↓Zaaj,↓Zaar,↓Zaak,↓bxOp_un,↓Zaat,↓Zaao,↓bxPut,↓Zabk,↓Zabl,↓Zabi,↓Zacm,↓Zacn,↓Zacp,↓Zaba,↓Zaay,↓Zaaz,↓dstAt,↓Zabc,Zack,una_not_dec,una_nf,aPick_true,aPick_false,Zabt,sxGuardB_ft,sxGuardB_ff,Zach,Zabg,List.map_cons,List.map_nil,List.nil_append,List.append_nil,↓reduceIte,Nat.reduceEqDiff,Nat.reduceLT,dec_T,dec_F,and_false,not_false_eq_true, *,argF,List.getD_cons_zero,List.getD_cons_succ,lenI])
      all_goals first
        | exact ⟨bool_f fun hp => absurd hp.1 ‹_›,Keep.refl _⟩
        | exact ⟨bool_f fun hp => absurd hp.2.1 ‹_›,Keep.refl _⟩
        | exact ⟨bool_f fun hp => hn2 hp.2.1.2,Keep.refl _⟩
        | exact bool_f fun hp => hw hp.2.2.1
        | exact bool_f fun hp => absurd hw' ‹_›
        | exact bool_d ⟨fun hh => hh.2.2.2,fun hh => ⟨Decidable.not_not.1 ‹¬¬(0 ≤ e ∧ e ≤ 100000)›,Decidable.not_not.1 ‹¬¬(1 ≤ (w.length:Int) ∧ (w.length:Int) ≤ 7)›,hw,hh⟩⟩
        | exact bool_d ⟨fun hh => ⟨Decidable.not_not.1 ‹¬¬(0 ≤ e ∧ e ≤ 100000)›,Decidable.not_not.1 ‹¬¬(1 ≤ (w.length:Int) ∧ (w.length:Int) ≤ 7)›,hw,hh⟩,fun hh => hh.2.2.2⟩
  · have hw':¬ ∀ x ∈ w,¬¬ (0 ≤ x ∧ x ≤ 100000):=fun h => hw fun x hx => Decidable.not_not.1 (h x hx)
    repeat' (first | (with_reducible refine Zacf (fun h => ?_) (fun h => ?_)) | (with_reducible refine Zace (fun h => ?_) (fun h => ?_)) | (with_reducible refine sxIfB_sp (fun h => ?_) (fun h => ?_)) | simp only [↓Zabs,↓Zabp,↓Zabr,↓Zaae,↓Zabq,↓Zacj,↓Zaci,↓Zaco,↓Zaav,↓Zaaq,↓Zaaj,↓Zaar,↓Zaak,↓bxOp_un,↓Zaat,↓Zaao,↓bxPut,↓Zabk,↓Zabl,↓Zabi,↓Zacm,↓Zacn,↓Zacp,↓Zaba,↓Zaay,↓Zaaz,↓dstAt,↓Zabc,Zack,una_not_dec,aPick_true,aPick_false,Zabt,sxGuardB_ft,sxGuardB_ff,Zach,Zabg,List.map_cons,List.map_nil,List.nil_append,List.append_nil,↓reduceIte,Nat.reduceEqDiff,Nat.reduceLT,dec_T,dec_F,and_true,not_false_eq_true, *,argF,List.getD_cons_zero,List.getD_cons_succ,lenI])
    all_goals first
      | exact ⟨bool_f fun hp => absurd hp.1 ‹_›,Keep.refl _⟩
      | exact ⟨bool_f fun hp => absurd hp.2.1 ‹_›,Keep.refl _⟩
      | exact ⟨bool_f fun hp => hn2 hp.2.1.2,Keep.refl _⟩
      | exact bool_f fun hp => hw hp.2.2.1
      | exact bool_f fun hp => absurd hw' ‹_›
      | exact bool_d ⟨fun hh => hh.2.2.2,fun hh => ⟨Decidable.not_not.1 ‹¬¬(0 ≤ e ∧ e ≤ 100000)›,Decidable.not_not.1 ‹¬¬(1 ≤ (w.length:Int) ∧ (w.length:Int) ≤ 7)›,hw,hh⟩⟩
      | exact bool_d ⟨fun hh => ⟨Decidable.not_not.1 ‹¬¬(0 ≤ e ∧ e ≤ 100000)›,Decidable.not_not.1 ‹¬¬(1 ≤ (w.length:Int) ∧ (w.length:Int) ≤ 7)›,hw,hh⟩,fun hh => hh.2.2.2⟩
end Go.Proofs.YtpeoleimmabceaaGreat.Q
