/- The less of two journeys; is there any; the rows that grow: by the reference. -/
import Derived.Test.YteechkbnccpicaaR9
set_option linter.unusedVariables false
set_option linter.unusedSimpArgs false
set_option linter.unusedSectionVars false

namespace Go.Proofs.Yteechkbnccpicaa
open Go Go.AM
set_option maxRecDepth 10000

theorem castL_at {x:List Nat} {k:Nat} (hk:k < x.length):(castL x).getD k 0 = ((x.getD k 0:Nat):Int):=by
  unfold castL;rw [List.getD_eq_getElem?_getD,List.getD_eq_getElem?_getD,List.getElem?_map,List.getElem?_eq_getElem hk]; rfl
theorem nat_at {X:Heap} {x:List Nat} {r o:Nat} {a:Option Addr} {c:Nat} (h:SlI .i64 X (.slice a x.length c) (castL x) r o) {k:Nat} (hk:k < x.length) :
    ∃ q,Zaaa Try.prog 25 (.slice a x.length c) (.int .i64 (k:Int)) = some (.pointer (some ⟨r,q,none⟩)) ∧ X.read r q 1 = some [.int .i64 ((x.getD k 0:Nat):Int)]:=by
  have hk2:k < (castL x).length:=by rw [castL_len]; exact hk
  have h':SlI .i64 X (.slice a (castL x).length c) (castL x) r o:=by rw [castL_len]; exact h
  have h1:=SlI_at h' hk2;rw [castL_len,castL_at hk] at h1;exact ⟨_,h1⟩
def anyB (w:List (List Nat)):Bool:=w.any fun x => !x.isEmpty
theorem jE_nil {X:Heap} {x:List Nat} {v:Value} (h:jE.At X x [v]):binP Try.prog .eql 25 v (.slice none 0 0) = some (.bool x.isEmpty) ∧ binP Try.prog .neq 25 v (.slice none 0 0) = some (.bool (!x.isEmpty)):=by
  rcases jE_cases h with ⟨rfl,rfl⟩ | ⟨h1,a,c,r,o,rfl,_⟩
  · exact ⟨eqNil0,neNil0⟩
  · cases x with
    | nil => exact absurd rfl h1
    | cons y x => exact ⟨eqNil _ _ _,neNil _ _ _⟩

variable {S:AM.Sys} (hS:Only S 11)
include hS

theorem rLess_runs (x y:List Nat) (hxy:x.length = y.length) (v1 v2:Value) (r1 o1 r2 o2:Nat) (H:Heap) (hL:H.low ≤ H.size) (h1:SlI .i64 H v1 (castL x) r1 o1) (h2:SlI .i64 H v2 (castL y) r2 o2):Runs Try.prog S (.fn 51) [v1,v2] H (.bool (lexB x y)) H:=by
  obtain ⟨b0,hb0⟩:∃ b0,lexB x y = b0:=⟨_,rfl⟩;rw [hb0]
  suffices h:WCall Try.prog S (.fn 51) [v1,v2] H (fun v H' => v = .bool b0 ∧ H' = H) by
    obtain ⟨_,_,hr,rfl,rfl⟩:=h; exact hr
  have hob:=h1.v0;obtain ⟨a1,c1,rfl⟩:=hob;have hob:=h2.v0;obtain ⟨a2,c2,rfl⟩:=hob;rw [castL_len] at h1 h2 ⊢;rw [castL_len];have hml:x.length ≤ 9223372036854775807:=by have h:=h1.ml; rw [castL_len] at h; exact h
  refine Zaba Try.func51 rfl (Nat.le_of_ble_eq_true rfl) (hS.no rfl _ _) ?_
  rw [Try.ntmps51,Try.results51];have hx1:x.length ≤ y.length:=by omega
  have hx2:y.length ≤ x.length:=by omega
  clear hxy
  repeat' simp only [↓Zabx,↓Zabz,↓Zaaj,↓Zabu,↓Zaby,↓Zacw,↓Zacv,↓Zadb,↓Zaam,↓bxPut,↓Zabs,↓Zabq,↓Zacz,↓Zada,↓Zabe,Zabm,Nat.reduceLT, *]
  refine sxL_of (fun m ρ H1 => ∃ k:Nat,m = x.length - k ∧ k ≤ x.length ∧ H1 = H ∧ lexB (x.drop k) (y.drop k) = b0 ∧ ρ 0 = .slice a1 x.length c1 ∧ ρ 1 = .slice a2 y.length c2 ∧ ρ 5 = .int .i64 (k:Int))
    ⟨0,rfl,Nat.zero_le _,rfl,hb0,rfl,rfl,rfl⟩ ?_
  clear hb0;rintro m ρ H1 ⟨k,rfl,hk,rfl,hlx,e0,e1,e5⟩
  by_cases hlt:k < x.length
  · have hlt':(k:Int) < (x.length:Int):=by omega
    have hw:IntKind.i64.wrap ((k:Int) + 1) = ((k + 1:Nat):Int):=IntWalk.i64_in _ (by omega)
    have hob:=nat_at h1 hlt;obtain ⟨q1,ix1,rd1⟩:=hob;have hob:=nat_at h2 (k:=k) (by omega)
    obtain ⟨q2,ix2,rd2⟩:=hob;have hdr:lexB (x.drop k) (y.drop k) = if x.getD k 0 = y.getD k 0 then lexB (x.drop (k + 1)) (y.drop (k + 1)) else decide (x.getD k 0 < y.getD k 0):=by
      rw [List.drop_eq_getElem_cons hlt,List.drop_eq_getElem_cons (show k < y.length by omega),List.getD_eq_getElem?_getD,List.getD_eq_getElem?_getD,List.getElem?_eq_getElem hlt,List.getElem?_eq_getElem (show k < y.length by omega)]
      rfl
    by_cases heq:x.getD k 0 = y.getD k 0
    · have d1:decide (¬ ((x.getD k 0:Nat):Int) = ((y.getD k 0:Nat):Int)) = false:=decide_eq_false (fun h => h (by omega))
      rw [hdr,if_pos heq] at hlx;clear h1 h2 hdr heq hx1 hx2
      repeat' (first | simp only [↓Zaca,↓Zabv,↓Zabx,↓Zabz,↓Zaai,↓Zabu,↓Zabw,↓Zaby,↓Zacw,↓Zacv,↓Zaco,↓Zaak,↓Zacj,↓sxDL_assign,↓Zaci,↓Zace,↓Zach,↓Zacn,↓Zadb,↓Zaau,↓Zaam,↓Zaat,↓Zaan,↓Zaar,↓Zaas,↓bxPut,↓Zabs,↓Zabr,↓Zabt,↓Zaag,↓Zaah,↓Zaaf,↓Zabk,↓Zabj,↓Zabl,↓Zabq,↓Zacz,↓Zada,↓Zadc,↓Zabg,↓Zabe,Zacx,Zaae,Zabi,Zacu,Zact,Zabm,↓reduceIte,Nat.reduceEqDiff,Nat.reduceLT,dec_T,true_and,Zaab,one1,Option.bind_some, *,lenIs,ldC,one1] | (with_reducible first | refine Zacd (by assumption) (by decide +kernel) ?_ | refine Zacc (by decide +kernel) ?_ | refine Zacm (by decide +kernel) ?_ | refine Zacf ?_))
      exact ⟨x.length - (k + 1),by omega,k + 1,rfl,by omega,hlx,rfl⟩
    · have d1:decide (¬ ((x.getD k 0:Nat):Int) = ((y.getD k 0:Nat):Int)) = true:=decide_eq_true (fun h => heq (by omega))
      rw [hdr,if_neg heq] at hlx;have d2:decide (((x.getD k 0:Nat):Int) < ((y.getD k 0:Nat):Int)) = decide (x.getD k 0 < y.getD k 0):=decide_eq_decide.2 (by omega)
      rw [← d2] at hlx;clear h1 h2 hdr heq hx1 hx2 d2
      repeat' (first | simp only [↓Zaca,↓Zabv,↓Zabx,↓Zabz,↓Zaai,↓Zabu,↓Zabw,↓Zaby,↓Zacw,↓Zacv,↓Zaco,↓Zaak,↓Zacj,↓sxDL_assign,↓Zaci,↓Zace,↓Zach,↓Zacn,↓Zadb,↓Zaau,↓Zaam,↓Zaat,↓Zaan,↓Zaar,↓Zaas,↓bxPut,↓Zabs,↓Zabr,↓Zabt,↓Zaag,↓Zaah,↓Zaaf,↓Zabk,↓Zabj,↓Zabl,↓Zabq,↓Zacz,↓Zada,↓Zadc,↓Zabg,↓Zabe,Zacx,Zaae,Zabi,Zacu,Zabm,↓reduceIte,Nat.reduceEqDiff,Nat.reduceLT,dec_T,and_self,Zaab,one1,Option.bind_some, *,lenIs,ldC,one1] | (with_reducible first | refine Zacd (by assumption) (by decide +kernel) ?_ | refine Zacc (by decide +kernel) ?_ | refine Zacm (by decide +kernel) ?_ | refine Zacf ?_))
  · have hlt':¬ (k:Int) < (x.length:Int):=by omega
    rw [List.drop_eq_nil_of_le (show x.length ≤ k by omega)] at hlx
    replace hlx:b0 = false:=hlx.symm;clear h1 h2 hx1 hx2
    repeat' (first | simp only [↓Zaca,↓Zabv,↓Zabx,↓Zabz,↓Zaai,↓Zabu,↓Zabw,↓Zaby,↓Zacw,↓Zacv,↓Zaco,↓Zaak,↓Zacj,↓sxDL_assign,↓Zaci,↓Zace,↓Zach,↓Zadb,↓Zaau,↓Zaam,↓Zaat,↓Zaan,↓Zaar,↓Zaas,↓bxPut,↓Zabs,↓Zabr,↓Zabt,↓Zaag,↓Zaah,↓Zaaf,↓Zabk,↓Zabj,↓Zabl,↓Zabq,↓Zacz,↓Zada,↓Zadc,↓Zabg,↓Zabe,Zacx,Zaae,Zabi,Zact,Zabm,↓reduceIte,Nat.reduceEqDiff,Nat.reduceLT,dec_F,and_self, *,lenIs] | (with_reducible first | refine Zacd (by assumption) (by decide +kernel) ?_ | refine Zacc (by decide +kernel) ?_ | refine Zacm (by decide +kernel) ?_ | refine Zacf ?_))

theorem rSome_runs (w:List (List Nat)) (v:Value) (r o:Nat) (H:Heap) (h:SlE jE H v w r o):Runs Try.prog S (.fn 52) [v] H (.bool (anyB w)) H:=by
  obtain ⟨b0,hb0⟩:∃ b0,anyB w = b0:=⟨_,rfl⟩;rw [hb0]
  suffices h:WCall Try.prog S (.fn 52) [v] H (fun v H' => v = .bool b0 ∧ H' = H) by
    obtain ⟨_,_,hr,rfl,rfl⟩:=h; exact hr
  have hob:=h.v0;obtain ⟨a,c,rfl⟩:=hob;have hml:w.length ≤ 9223372036854775807:=h.ml;refine Zaba Try.func52 rfl (Nat.le_of_ble_eq_true rfl) (hS.no rfl _ _) ?_
  rw [Try.ntmps52,Try.results52]
  repeat' simp only [↓Zabx,↓Zabz,↓Zaaj,↓Zabu,↓Zaby,↓Zacw,↓Zacv,↓Zadb,↓Zaam,↓bxPut,↓Zabs,↓Zabq,↓Zacz,↓Zada,↓Zabe,Zabm,Nat.reduceLT, *]
  refine sxL_of (fun m ρ H1 => ∃ k:Nat,m = w.length - k ∧ k ≤ w.length ∧ H1 = H ∧ anyB (w.drop k) = b0 ∧ ρ 0 = .slice a w.length c ∧ ρ 3 = .int .i64 (k:Int))
    ⟨0,rfl,Nat.zero_le _,rfl,hb0,rfl,rfl⟩ ?_
  clear hb0;rintro m ρ H1 ⟨k,rfl,hk,rfl,hax,e0,e3⟩
  by_cases hlt:k < w.length
  · have hlt':(k:Int) < (w.length:Int):=by omega
    have hw:IntKind.i64.wrap ((k:Int) + 1) = ((k + 1:Nat):Int):=IntWalk.i64_in _ (by omega)
    have hob:=row_at h hlt;obtain ⟨ix1,v1,rd1,at1⟩:=hob;have hob:=jE_nil at1;obtain ⟨_,nn⟩:=hob;have hdr:anyB (w.drop k) = ((!(w.getD k []).isEmpty) || anyB (w.drop (k + 1))):=by
      rw [List.drop_eq_getElem_cons hlt,List.getD_eq_getElem?_getD,List.getElem?_eq_getElem hlt];rfl
    have hon:one1 [v1] = some v1:=by
      rcases jE_cases at1 with ⟨_,rfl⟩ | ⟨_,a,c,r,o,rfl,_⟩ <;> rfl
    rw [hdr] at hax;have hgb:∃ b,b = (w.getD k []).isEmpty:=⟨_,rfl⟩;obtain ⟨b,hb⟩:=hgb;rw [← hb] at hax nn;cases b with
    | true =>
      replace hax:anyB (w.drop (k + 1)) = b0:=hax;replace nn:binP Try.prog .neq 25 v1 (.slice none 0 0) = some (.bool false):=nn;clear h at1 hb hdr
      repeat' simp only [↓Zaca,↓Zabx,↓Zabz,↓Zaai,↓Zabu,↓Zabw,↓Zaby,↓Zacw,↓Zacv,↓Zadb,↓Zaau,↓Zaam,↓Zaat,↓Zaan,↓Zaar,↓Zaas,↓bxPut,↓Zabs,↓Zabr,↓Zabt,↓Zaag,↓Zaah,↓Zaaf,↓Zabk,↓Zabj,↓Zabl,↓Zabq,↓Zacz,↓Zada,↓Zadc,↓Zabg,↓Zabe,Zacx,Zaae,Zabi,Zacu,Zact,Zabm,↓reduceIte,Nat.reduceEqDiff,Nat.reduceLT,dec_T,true_and,one1,Option.bind_some, *,lenJ,ldIs]
      exact ⟨w.length - (k + 1),by omega,k + 1,rfl,by omega,hax,rfl⟩
    | false =>
      replace hax:b0 = true:=hax.symm;replace nn:binP Try.prog .neq 25 v1 (.slice none 0 0) = some (.bool true):=nn;clear h at1 hb hdr
      repeat' simp only [↓Zaca,↓Zabx,↓Zabz,↓Zaai,↓Zabu,↓Zabw,↓Zaby,↓Zacw,↓Zacv,↓Zadb,↓Zaau,↓Zaam,↓Zaat,↓Zaan,↓Zaar,↓Zaas,↓bxPut,↓Zabs,↓Zabr,↓Zabt,↓Zaag,↓Zaah,↓Zaaf,↓Zabk,↓Zabj,↓Zabl,↓Zabq,↓Zacz,↓Zada,↓Zadc,↓Zabg,↓Zabe,Zacx,Zaae,Zabi,Zacu,Zabm,↓reduceIte,Nat.reduceEqDiff,Nat.reduceLT,dec_T,and_self,one1,Option.bind_some, *,lenJ,ldIs]
  · have hlt':¬ (k:Int) < (w.length:Int):=by omega
    rw [List.drop_eq_nil_of_le (show w.length ≤ k by omega)] at hax
    replace hax:b0 = false:=hax.symm;clear h
    repeat' simp only [↓Zaca,↓Zabx,↓Zabz,↓Zaai,↓Zabu,↓Zabw,↓Zaby,↓Zacw,↓Zacv,↓Zadb,↓Zaau,↓Zaam,↓Zaat,↓Zaan,↓Zaar,↓Zaas,↓bxPut,↓Zabs,↓Zabr,↓Zabt,↓Zaag,↓Zaah,↓Zaaf,↓Zabk,↓Zabj,↓Zabl,↓Zabq,↓Zacz,↓Zada,↓Zadc,↓Zabg,↓Zabe,Zacx,Zaae,Zabi,Zact,Zabm,↓reduceIte,Nat.reduceEqDiff,Nat.reduceLT,dec_F,and_self, *,lenJ]
end Go.Proofs.Yteechkbnccpicaa
