/- Games: matrices as they come in, and what is one, on the canonical machine. -/
import Derived.Test.YtdfjaoncabanbaaDoorG0
set_option linter.unusedVariables false
set_option linter.unusedSimpArgs false
set_option linter.unusedSectionVars false

namespace Go.Proofs.YtdfjaoncabanbaaDoor
open Go Go.AM
set_option maxRecDepth 10000

abbrev SlG (H:Heap) (v:Value) (g:List (List Int)) (r o:Nat):Prop:=SlE (sliceE (intE .i64)) H v g r o
theorem ldG (H:Heap) (r o:Nat):aLoad Tryd.prog H 22 (.pointer (some ⟨r,o,none⟩)) = (H.read r o 1).bind one1:=by kernel_rfl
theorem lenG (a:Option Addr) (n c:Nat):aLen Tryd.prog #[22] (.slice a n c) = some (.int .i64 n):=by kernel_rfl
theorem ixG (r o n c:Nat) (k:IntKind) (i:Int):aIndexAt Tryd.prog 22 (.slice (some ⟨r,o,none⟩) n c) (.int k i) = if 0 ≤ i ∧ i < (n:Int) then some (.pointer (some ⟨r,o + i.toNat * 1,none⟩)) else none:=by kernel_rfl
theorem SlG_at {H:Heap} {w:List (List Int)} {r o:Nat} {a:Option Addr} {cap:Nat} (h:SlG H (.slice a w.length cap) w r o) {k:Nat} (h1:k < w.length) :
    aIndexAt Tryd.prog 22 (.slice a w.length cap) (.int .i64 (k:Int)) = some (.pointer (some ⟨r,o + k,none⟩)) ∧ ∃ x r1 o1,H.read r (o + k) 1 = some [x] ∧ SlI .i64 H x (w.getD k default) r1 o1:=by
  obtain ⟨a',cap',e,ha⟩:=h.isv;cases e;refine ⟨by rw [ha (by omega),ixG,if_pos ⟨by omega,by omega⟩,Int.toNat_natCast,Nat.mul_one],?_⟩
  obtain ⟨es,h2,x,r1,o1,rfl,h3⟩:=h.rd k h1;have e1:(sliceE (intE .i64)).sz = 1:=rfl;rw [e1,Nat.mul_one] at h2;exact ⟨x,r1,o1,h2,h3⟩

variable {S:AM.Sys} (hS:Only S 5)
include hS

theorem ifInt_runs (p:Int → Prop) [DecidablePred p] (v:Value) (w:List Int) (r o:Nat) (H:Heap) (hl:SlI .i64 H v w r o)
    {g:FuncId} {cs:List Value} (hp:∀ H1,Keep H H1 → ∀ z,∃ H2,Keep H1 H2 ∧ Runs Tryd.prog S (.fn g) (.int .i64 z :: cs) H1 (.bool (decide (p z))) H2) :
    ∃ H' k,Keep H H' ∧ Runs Tryd.prog S (.fn 74) [v,.func (.func g) #[] ⟨cs⟩] H (.int .i64 k) H' ∧ ((k = -1 ∧ ∀ x ∈ w,¬ p x) ∨ (∃ j:Nat,k = j ∧ j < w.length ∧ p (w.getD j 0) ∧ ∀ i,i < j → ¬ p (w.getD i 0))):=by
  suffices h:WCall Tryd.prog S (.fn 74) [v,.func (.func g) #[] ⟨cs⟩] H (fun v H' => ∃ k,v = .int .i64 k ∧ Keep H H' ∧ ((k = -1 ∧ ∀ x ∈ w,¬ p x) ∨ (∃ j:Nat,k = j ∧ j < w.length ∧ p (w.getD j 0) ∧ ∀ i,i < j → ¬ p (w.getD i 0)))) by
    obtain ⟨_,H',hr,k,rfl,hk,hi⟩:=h; exact ⟨H',k,hk,hr,hi⟩
  obtain ⟨a,cap,rfl⟩:=hl.v0;refine Zaaw Tryd.func74 rfl (Nat.le_of_ble_eq_true rfl) (hS.no rfl _ _) ?_
  rw [Tryd.ntmps74,Tryd.results74]
  repeat' (first | (with_reducible refine Zace (fun h => ?_) (fun h => ?_)) | (with_reducible refine Zacd (fun h => ?_) (fun h => ?_)) | (with_reducible refine sxIfB_sp (fun h => ?_) (fun h => ?_)) | simp only [↓Zabo,↓Zabq,↓Zaah,↓Zabl,↓Zabp,↓Zaci,↓Zach,↓Zacn,↓Zaar,↓Zaaj,↓Zaap,↓bxPut,↓Zabj,↓Zabh,↓Zacl,↓Zacm,↓Zaco,↓Zaba,↓Zaay,Zacj,Zabf,↓reduceIte,Nat.reduceEqDiff,Nat.reduceLT, *,argF,List.getD_cons_zero,lenI])
  refine sxL_of (fun m ρ H1 => ∃ k:Nat,m = w.length - k ∧ k ≤ w.length ∧ Keep H H1 ∧ (∀ j,j < k → ¬ p (w.getD j 0)) ∧ ρ 0 = .slice a w.length cap ∧
    ρ 1 = .func (.func g) #[] ⟨cs⟩ ∧ ρ 7 = .int .i64 w.length ∧ ρ 8 = .int .i64 k) ⟨0,rfl,Nat.zero_le _,Keep.refl _,fun j hj => absurd hj (Nat.not_lt_zero j),rfl,rfl,rfl,rfl⟩ ?_
  rintro m ρ H1 ⟨k,rfl,hk,hK,hall,e0,e1,e7,e8⟩;have hl1:=hl.keep hK;have hix:=fun h:k < w.length => SlI_ix hl1 h
  have hrd:=fun h:k < w.length => (hl1.rdI h).1
  obtain ⟨H2,hK2,hr2⟩:=hp H1 hK (w.getD k 0);have hb:=hr2.bx
  by_cases hlt:k < w.length
  · have hix:=hix hlt;have hrd:=hrd hlt;have hw:=wrap_succ hlt hl.ml;have hlt':(k:Int) < (w.length:Int):=by omega
    clear hl1 hr2
    repeat' (first | (with_reducible refine Zace (fun h => ?_) (fun h => ?_)) | (with_reducible refine Zacd (fun h => ?_) (fun h => ?_)) | (with_reducible refine sxIfB_sp (fun h => ?_) (fun h => ?_)) | simp only [↓Zabr,↓Zabo,↓Zabq,↓Zaag,↓Zabl,↓Zabn,↓Zabp,↓Zaci,↓Zach,↓Zacn,↓Zaar,↓Zaaj,↓Zaaq,↓Zaak,↓Zaao,↓Zaau,↓bxPut,↓Zabj,↓Zabi,↓Zabk,↓Zaaf,↓blockQ_ret,↓Zaae,↓Zabe,↓Zabd,↓loopQ_ret,↓Zabh,↓Zacl,↓Zacm,↓Zaco,↓Zaba,↓Zaay,Zacj,Zaad,Zabc,Zabs,Zacg,Zabf,List.map,List.nil_append,List.cons_append,↓reduceIte,Nat.reduceEqDiff,Nat.reduceLT,dec_T,true_and,one1,Option.bind_some, *,ldI])
    · exact ⟨k,rfl,hK.trans hK2,.inr ⟨k,rfl,hlt,‹_›,hall⟩⟩
    · exact ⟨_,by omega,k + 1,rfl,by omega,hK.trans hK2,fun j hj => by
        rcases Nat.lt_or_ge j k with h | h
        · exact hall j h
        · rw [show j = k by omega]; assumption,rfl⟩
  · have hlt':¬ (k:Int) < (w.length:Int):=by omega
    clear hl1 hr2;obtain rfl:k = w.length:=by omega
    repeat' (first | (with_reducible refine Zace (fun h => ?_) (fun h => ?_)) | (with_reducible refine Zacd (fun h => ?_) (fun h => ?_)) | (with_reducible refine sxIfB_sp (fun h => ?_) (fun h => ?_)) | simp only [↓Zabr,↓Zabo,↓Zabq,↓Zaag,↓Zabl,↓Zabn,↓Zabp,↓Zaci,↓Zach,↓Zacn,↓Zaar,↓Zaaj,↓Zaaq,↓Zaak,↓Zaao,↓Zaau,↓bxPut,↓Zabj,↓Zabi,↓Zabk,↓Zaaf,↓blockQ_ret,↓Zaae,↓Zabe,↓Zabd,↓loopQ_ret,↓Zabh,↓Zacl,↓Zacm,↓Zaco,↓Zaba,↓Zaay,Zacj,Zaad,Zabc,Zacf,Zabf,↓reduceIte,Nat.reduceLT,dec_F,true_and, *])
    exact ⟨-1,rfl,.inl ⟨rfl,all_of hall⟩⟩

theorem cfInt_runs (p:Int → Prop) [DecidablePred p] (v:Value) (w:List Int) (r o:Nat) (H:Heap) (hl:SlI .i64 H v w r o)
    {g:FuncId} {cs:List Value} (hp:∀ H1,Keep H H1 → ∀ z,∃ H2,Keep H1 H2 ∧ Runs Tryd.prog S (.fn g) (.int .i64 z :: cs) H1 (.bool (decide (p z))) H2) :
    ∃ H',Keep H H' ∧ Runs Tryd.prog S (.fn 54) [v,.func (.func g) #[] ⟨cs⟩] H (.bool (decide (¬ ∀ x ∈ w,¬ p x))) H':=by
  obtain ⟨H',k,hK,hR,hk⟩:=ifInt_runs hS p v w r o H hl hp;refine ⟨H',hK,?_⟩;have hk':0 ≤ k ↔ ¬ ∀ x ∈ w,¬ p x:=by
    rcases hk with ⟨rfl,h⟩ | ⟨j,rfl,h1,h2,h3⟩
    · exact ⟨fun h => by omega,fun hn => absurd h hn⟩
    · exact ⟨fun _ hn => hn _ (getD_mem h1) h2,fun _ => by omega⟩
  suffices h:WCall Tryd.prog S (.fn 54) [v,.func (.func g) #[] ⟨cs⟩] H (fun v' H1 => v' = .bool (decide (¬ ∀ x ∈ w,¬ p x)) ∧ H1 = H') by
    obtain ⟨_,_,hr,rfl,rfl⟩:=h; exact hr
  refine Zaaw Tryd.func54 rfl (Nat.le_of_ble_eq_true rfl) (hS.no rfl _ _) ?_
  rw [Tryd.ntmps54,Tryd.results54];have hb:=hR.bx;clear hR hp
  repeat' (first | (with_reducible refine Zace (fun h => ?_) (fun h => ?_)) | (with_reducible refine Zacd (fun h => ?_) (fun h => ?_)) | (with_reducible refine sxIfB_sp (fun h => ?_) (fun h => ?_)) | simp only [↓Zabo,↓Zabq,↓Zabp,↓Zaci,↓Zach,↓Zacn,↓Zaar,↓Zaaj,↓Zaak,↓Zaau,↓bxPut,↓Zabj,↓Zabh,↓Zacl,↓Zacm,↓Zaco,↓Zaba,↓Zaay,↓Zaaz,Zacj,Zaad,Zabc,Zabs,Zabf,List.map,List.nil_append,List.append_nil,↓reduceIte,Nat.reduceEqDiff,Nat.reduceLT,and_self, *,argF,List.getD_cons_zero,List.getD_cons_succ])
  all_goals first
    | exact bool_d hk'
    | skip

theorem ifInts_runs (p:List Int → Prop) [DecidablePred p] (v:Value) (w:List (List Int)) (r o:Nat) (H:Heap) (hl:SlG H v w r o)
    {g:FuncId} {cs:List Value} (hp:∀ H1,Keep H H1 → ∀ x z r o,SlI .i64 H1 x z r o → ∃ H2,Keep H1 H2 ∧ Runs Tryd.prog S (.fn g) (x :: cs) H1 (.bool (decide (p z))) H2) :
    ∃ H' k,Keep H H' ∧ Runs Tryd.prog S (.fn 53) [v,.func (.func g) #[] ⟨cs⟩] H (.int .i64 k) H' ∧ ((k = -1 ∧ ∀ x ∈ w,¬ p x) ∨ (∃ j:Nat,k = j ∧ j < w.length ∧ p (w.getD j default) ∧ ∀ i,i < j → ¬ p (w.getD i default))):=by
  suffices h:WCall Tryd.prog S (.fn 53) [v,.func (.func g) #[] ⟨cs⟩] H (fun v H' => ∃ k,v = .int .i64 k ∧ Keep H H' ∧ ((k = -1 ∧ ∀ x ∈ w,¬ p x) ∨ (∃ j:Nat,k = j ∧ j < w.length ∧ p (w.getD j default) ∧ ∀ i,i < j → ¬ p (w.getD i default)))) by
    obtain ⟨_,H',hr,k,rfl,hk,hi⟩:=h; exact ⟨H',k,hk,hr,hi⟩
  obtain ⟨a,cap,rfl⟩:=hl.v0;refine Zaaw Tryd.func53 rfl (Nat.le_of_ble_eq_true rfl) (hS.no rfl _ _) ?_
  rw [Tryd.ntmps53,Tryd.results53]
  repeat' (first | (with_reducible refine Zace (fun h => ?_) (fun h => ?_)) | (with_reducible refine Zacd (fun h => ?_) (fun h => ?_)) | (with_reducible refine sxIfB_sp (fun h => ?_) (fun h => ?_)) | simp only [↓Zabo,↓Zabq,↓Zaah,↓Zabl,↓Zabp,↓Zaci,↓Zach,↓Zacn,↓Zaar,↓Zaaj,↓Zaap,↓bxPut,↓Zabj,↓Zabh,↓Zacl,↓Zacm,↓Zaco,↓Zaba,↓Zaay,Zacj,Zabf,↓reduceIte,Nat.reduceEqDiff,Nat.reduceLT, *,argF,List.getD_cons_zero,lenG])
  refine sxL_of (fun m ρ H1 => ∃ k:Nat,m = w.length - k ∧ k ≤ w.length ∧ Keep H H1 ∧ (∀ j,j < k → ¬ p (w.getD j default)) ∧ ρ 0 = .slice a w.length cap ∧
    ρ 1 = .func (.func g) #[] ⟨cs⟩ ∧ ρ 7 = .int .i64 w.length ∧ ρ 8 = .int .i64 k) ⟨0,rfl,Nat.zero_le _,Keep.refl _,fun j hj => absurd hj (Nat.not_lt_zero j),rfl,rfl,rfl,rfl⟩ ?_
  rintro m ρ H1 ⟨k,rfl,hk,hK,hall,e0,e1,e7,e8⟩;have hl1:=hl.keep hK
  by_cases hlt:k < w.length
  · have hob:=SlG_at hl1 hlt;obtain ⟨hix,x,r1,o1,hrd,hx⟩:=hob;have hob2:=hp H1 hK x (w.getD k default) r1 o1 hx;obtain ⟨H2,hK2,hr2⟩:=hob2;have hb:=hr2.bx;have hw:=wrap_succ hlt hl.ml;have hlt':(k:Int) < (w.length:Int):=by omega
    clear hl1 hr2
    repeat' (first | (with_reducible refine Zace (fun h => ?_) (fun h => ?_)) | (with_reducible refine Zacd (fun h => ?_) (fun h => ?_)) | (with_reducible refine sxIfB_sp (fun h => ?_) (fun h => ?_)) | simp only [↓Zabr,↓Zabo,↓Zabq,↓Zaag,↓Zabl,↓Zabn,↓Zabp,↓Zaci,↓Zach,↓Zacn,↓Zaar,↓Zaaj,↓Zaaq,↓Zaak,↓Zaao,↓Zaau,↓bxPut,↓Zabj,↓Zabi,↓Zabk,↓Zaaf,↓blockQ_ret,↓Zaae,↓Zabe,↓Zabd,↓loopQ_ret,↓Zabh,↓Zacl,↓Zacm,↓Zaco,↓Zaba,↓Zaay,Zacj,Zaad,Zabc,Zabs,Zacg,Zabf,List.map,List.nil_append,List.cons_append,↓reduceIte,Nat.reduceEqDiff,Nat.reduceLT,dec_T,true_and,one1,Option.bind_some, *,ldIs])
    · exact ⟨k,rfl,hK.trans hK2,.inr ⟨k,rfl,hlt,‹_›,hall⟩⟩
    · exact ⟨_,by omega,k + 1,rfl,by omega,hK.trans hK2,fun j hj => by
        rcases Nat.lt_or_ge j k with h | h
        · exact hall j h
        · rw [show j = k by omega]; assumption,rfl⟩
  · have hlt':¬ (k:Int) < (w.length:Int):=by omega
    clear hl1;obtain rfl:k = w.length:=by omega
    repeat' (first | (with_reducible refine Zace (fun h => ?_) (fun h => ?_)) | (with_reducible refine Zacd (fun h => ?_) (fun h => ?_)) | (with_reducible refine sxIfB_sp (fun h => ?_) (fun h => ?_)) | simp only [↓Zabr,↓Zabo,↓Zabq,↓Zaag,↓Zabl,↓Zabn,↓Zabp,↓Zaci,↓Zach,↓Zacn,↓Zaar,↓Zaaj,↓Zaaq,↓Zaak,↓Zaao,↓Zaau,↓bxPut,↓Zabj,↓Zabi,↓Zabk,↓Zaaf,↓blockQ_ret,↓Zaae,↓Zabe,↓Zabd,↓loopQ_ret,↓Zabh,↓Zacl,↓Zacm,↓Zaco,↓Zaba,↓Zaay,Zacj,Zaad,Zabc,Zacf,Zabf,↓reduceIte,Nat.reduceLT,dec_F,true_and, *])
    exact ⟨-1,rfl,.inl ⟨rfl,all_of hall⟩⟩

theorem cfInts_runs (p:List Int → Prop) [DecidablePred p] (v:Value) (w:List (List Int)) (r o:Nat) (H:Heap) (hl:SlG H v w r o)
    {g:FuncId} {cs:List Value} (hp:∀ H1,Keep H H1 → ∀ x z r o,SlI .i64 H1 x z r o → ∃ H2,Keep H1 H2 ∧ Runs Tryd.prog S (.fn g) (x :: cs) H1 (.bool (decide (p z))) H2) :
    ∃ H',Keep H H' ∧ Runs Tryd.prog S (.fn 27) [v,.func (.func g) #[] ⟨cs⟩] H (.bool (decide (¬ ∀ x ∈ w,¬ p x))) H':=by
  obtain ⟨H',k,hK,hR,hk⟩:=ifInts_runs hS p v w r o H hl hp;refine ⟨H',hK,?_⟩;have hk':0 ≤ k ↔ ¬ ∀ x ∈ w,¬ p x:=by
    rcases hk with ⟨rfl,h⟩ | ⟨j,rfl,h1,h2,h3⟩
    · exact ⟨fun h => by omega,fun hn => absurd h hn⟩
    · exact ⟨fun _ hn => hn _ (getD_mem h1) h2,fun _ => by omega⟩
  suffices h:WCall Tryd.prog S (.fn 27) [v,.func (.func g) #[] ⟨cs⟩] H (fun v' H1 => v' = .bool (decide (¬ ∀ x ∈ w,¬ p x)) ∧ H1 = H') by
    obtain ⟨_,_,hr,rfl,rfl⟩:=h; exact hr
  refine Zaaw Tryd.func27 rfl (Nat.le_of_ble_eq_true rfl) (hS.no rfl _ _) ?_
  rw [Tryd.ntmps27,Tryd.results27];have hb:=hR.bx;clear hR hp
  repeat' (first | (with_reducible refine Zace (fun h => ?_) (fun h => ?_)) | (with_reducible refine Zacd (fun h => ?_) (fun h => ?_)) | (with_reducible refine sxIfB_sp (fun h => ?_) (fun h => ?_)) | simp only [↓Zabo,↓Zabq,↓Zabp,↓Zaci,↓Zach,↓Zacn,↓Zaar,↓Zaaj,↓Zaak,↓Zaau,↓bxPut,↓Zabj,↓Zabh,↓Zacl,↓Zacm,↓Zaco,↓Zaba,↓Zaay,↓Zaaz,Zacj,Zaad,Zabc,Zabs,Zabf,List.map,List.nil_append,List.append_nil,↓reduceIte,Nat.reduceEqDiff,Nat.reduceLT,and_self, *,argF,List.getD_cons_zero,List.getD_cons_succ])
  all_goals first
    | exact bool_d hk'
    | skip


theorem areWithinL_runs (n a b:Int) (H:Heap) (ra rb:Nat) (qa:H.read ra 0 1 = some [.int .i64 a]) (qb:H.read rb 0 1 = some [.int .i64 b]) :
    Runs Tryd.prog S (.fn 55) [.int .i64 n,.pointer (some ⟨ra,0,none⟩),.pointer (some ⟨rb,0,none⟩)] H (.bool (decide (¬ (a ≤ n ∧ n ≤ b)))) H:=by
  suffices h:WCall Tryd.prog S (.fn 55) [.int .i64 n,.pointer (some ⟨ra,0,none⟩),.pointer (some ⟨rb,0,none⟩)] H (fun v H' => v = .bool (decide (¬ (a ≤ n ∧ n ≤ b))) ∧ H' = H) by
    obtain ⟨_,_,hr,rfl,rfl⟩:=h; exact hr
  have f1:=(isWithin_runs hS n a b H).bx;refine Zaaw Tryd.func55 rfl (Nat.le_of_ble_eq_true rfl) (hS.no rfl _ _) ?_
  rw [Tryd.ntmps55,Tryd.results55]
  repeat' (first | (with_reducible refine Zace (fun h => ?_) (fun h => ?_)) | (with_reducible refine Zacd (fun h => ?_) (fun h => ?_)) | (with_reducible refine sxIfB_sp (fun h => ?_) (fun h => ?_)) | simp only [↓Zabo,↓Zabq,↓Zabp,↓Zaci,↓Zach,↓Zacn,↓Zaar,↓Zaaj,↓Zaaq,↓bxOp_un,↓Zaau,↓bxPut,↓Zabj,↓Zabh,↓Zacl,↓Zacm,↓Zaco,↓Zaba,↓Zaay,↓Zaaz,Zacj,una_not_dec,Zabs,Zabf,List.map,List.nil_append,List.append_nil,↓reduceIte,Nat.reduceEqDiff,Nat.reduceLT,and_self,one1,Option.bind_some, *,argF,List.getD_cons_zero,List.getD_cons_succ,ldI])
theorem areWithin_runs (a b:Int) (v:Value) (w:List Int) (r o:Nat) (H:Heap) (hl:SlI .i64 H v w r o) :
    ∃ H',Keep H H' ∧ Runs Tryd.prog S (.fn 29) [v,.int .i64 a,.int .i64 b] H (.bool (decide (∀ x ∈ w,a ≤ x ∧ x ≤ b))) H':=by
  suffices h:WCall Tryd.prog S (.fn 29) [v,.int .i64 a,.int .i64 b] H (fun v H' => v = .bool (decide (∀ x ∈ w,a ≤ x ∧ x ≤ b)) ∧ Keep H H') by
    obtain ⟨_,H',hr,rfl,hk⟩:=h; exact ⟨H',hk,hr⟩
  obtain ⟨H1,e1,k1,s1,-,r1⟩:=box1 H [.int .i64 a] 3;obtain ⟨H2,e2,k2,s2,-,r2⟩:=box1 H1 [.int .i64 b] 3;have qa:H1.read H.size 0 1 = some [.int .i64 a]:=r1 0 1 (show 0 + 1 ≤ 1 by omega)
  have qb:H2.read H1.size 0 1 = some [.int .i64 b]:=r2 0 1 (show 0 + 1 ≤ 1 by omega)
  have qa2:=k2.read s1 qa;have k12:=k1.trans k2;obtain ⟨a',cap,rfl⟩:=hl.v0;obtain ⟨H3,k3,R3⟩:=cfInt_runs hS (fun n => ¬ (a ≤ n ∧ n ≤ b)) _ w r o H2 (hl.keep k12) (g:=55) (cs:=[.pointer (some ⟨H.size,0,none⟩),.pointer (some ⟨H1.size,0,none⟩)])
    fun Hx kx z => ⟨Hx,Keep.refl _,areWithinL_runs hS z a b Hx _ _ (kx.read (Nat.lt_of_lt_of_le s1 k2.size) qa2) (kx.read s2 qb)⟩
  have f3:=R3.bx;have hy:notYield (.func 55) = true:=rfl;have c1:(Value.int .i64 a).cells.toList = [.int .i64 a]:=rfl;have c2:(Value.int .i64 b).cells.toList = [.int .i64 b]:=rfl;have k03:=k12.trans k3;clear R3 r1 r2 hl;refine Zaaw Tryd.func29 rfl (Nat.le_of_ble_eq_true rfl) (hS.no rfl _ _) ?_
  rw [Tryd.ntmps29,Tryd.results29]
  repeat' (first | (with_reducible refine Zace (fun h => ?_) (fun h => ?_)) | (with_reducible refine Zacd (fun h => ?_) (fun h => ?_)) | (with_reducible refine sxIfB_sp (fun h => ?_) (fun h => ?_)) | simp only [↓Zabo,↓Zabq,↓Zabp,↓Zaci,↓Zach,↓Zacn,↓Zaar,↓Zaaj,↓Zaal,↓bxOp_un,↓bxOp_makeFunc,↓Zaau,↓bxPut,↓Zabj,↓Zabh,↓Zacl,↓Zacm,↓Zaco,↓Zaba,↓Zaay,↓Zaaz,Zacj,una_not_dec,Zabs,Zabf,List.map,List.nil_append,List.append_nil,↓reduceIte,Nat.reduceEqDiff,Nat.reduceLT,true_and,and_true, *,argF,List.getD_cons_zero,List.getD_cons_succ])
  exact congrArg Value.bool (decide_eq_decide.2 (by simp only [Decidable.not_not]))
end Go.Proofs.YtdfjaoncabanbaaDoor
