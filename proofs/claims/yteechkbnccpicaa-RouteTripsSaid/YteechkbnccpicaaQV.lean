/- The legs that can be last, by the number of changes, by the reference. -/
import Derived.Test.YteechkbnccpicaaR9
set_option linter.unusedVariables false
set_option linter.unusedSimpArgs false
set_option linter.unusedSectionVars false

namespace Go.Proofs.Yteechkbnccpicaa
open Go Go.AM
set_option maxRecDepth 10000

def opn (dn:List Bool):Nat:=dn.countP fun b => !b
theorem opn_set {dn:List Bool} {i:Nat} (hi:i < dn.length) (h:dn.getD i false = false):opn (dn.set i true) + 1 = opn dn:=by
  unfold opn;rw [List.countP_set hi];rw [List.getD_eq_getElem?_getD,List.getElem?_eq_getElem hi] at h;have h:dn[i] = false:=h;rw [h];have:0 < dn.countP fun b => !b:=List.countP_pos_iff.2 ⟨dn[i],List.getElem_mem hi,by rw [h]; rfl⟩
  simp; omega
def Cl (ls:List Lg) (ch:Int) (w:List Bool) (a b:Nat):Prop:=w.getD a false = true → chg1 ls a b = 0 → jn ls ch a b → w.getD b false = true
theorem closed_of {ls:List Lg} {ch:Int} {w:List Bool} (h:∀ a,a < ls.length → ∀ b,b < ls.length → Cl ls ch w a b):ClosedL ls ch w:=fun i j hi hj h1 h2 h3 => h i hi j hj h1 h2 h3
def Pass (ls:List Lg) (ch:Int) (w0 w:List Bool) (ag:Bool) (i j:Nat):Prop:=(ag = false → w = w0 ∧ (∀ a,a < i → ∀ b,b < ls.length → Cl ls ch w0 a b) ∧ ∀ b,b < j → Cl ls ch w0 i b) ∧ (ag = true → opn w < opn w0)
theorem Pass.skip {ls:List Lg} {ch:Int} {w0 w:List Bool} {ag:Bool} {i j:Nat} (h:Pass ls ch w0 w ag i j) (hc:Cl ls ch w i j):Pass ls ch w0 w ag i (j + 1):=by
  refine ⟨fun ha => ?_,h.2⟩
  obtain ⟨h1,h2,h3⟩:=h.1 ha;refine ⟨h1,h2,fun b hb => ?_⟩
  rcases Nat.lt_or_ge b j with h4 | h4
  · exact h3 b h4
  · rw [show b = j by omega,← h1]; exact hc
theorem Pass.add {ls:List Lg} {ch:Int} {w0 w:List Bool} {ag:Bool} {i j:Nat} (h:Pass ls ch w0 w ag i j) (hj:j < w.length) (hw:w.getD j false = false):Pass ls ch w0 (w.set j true) true i (j + 1):=by
  refine ⟨fun ha => (by cases ha),fun _ => ?_⟩
  have h1:=opn_set hj hw;cases ag with
  | false => rw [(h.1 rfl).1] at h1 ⊢; omega
  | true => have:=h.2 rfl; omega
theorem Pass.row {ls:List Lg} {ch:Int} {w0 w:List Bool} {ag:Bool} {i:Nat} (h:Pass ls ch w0 w ag i ls.length):Pass ls ch w0 w ag (i + 1) 0:=by
  refine ⟨fun ha => ?_,h.2⟩
  obtain ⟨h1,h2,h3⟩:=h.1 ha;refine ⟨h1,fun a hai b hb => ?_,fun b hb => absurd hb (Nat.not_lt_zero b)⟩
  rcases Nat.lt_or_ge a i with h4 | h4
  · exact h2 a h4 b hb
  · rw [show a = i by omega]; exact h3 b hb
def NxtI (ls:List Lg) (ch:Int) (now w:List Bool) (i j:Nat):Prop:=∀ a b,b < ls.length → (a < i ∨ (a = i ∧ b < j)) → now.getD a false = true → chg1 ls a b = 1 → jn ls ch a b → w.getD b false = true
theorem NxtI.row {ls:List Lg} {ch:Int} {now w:List Bool} {i:Nat} (h:NxtI ls ch now w i ls.length):NxtI ls ch now w (i + 1) 0:=fun a b hb hab h1 h2 h3 => h a b hb (by omega) h1 h2 h3
theorem NxtI.skip {ls:List Lg} {ch:Int} {now w:List Bool} {i j:Nat} (h:NxtI ls ch now w i j) (hn:now.getD i false = true → chg1 ls i j = 1 → jn ls ch i j → False):NxtI ls ch now w i (j + 1):=fun a b hb hab h1 h2 h3 => by
  by_cases hx:a = i ∧ b = j
  · obtain ⟨rfl,rfl⟩:=hx; exact (hn h1 h2 h3).elim
  · exact h a b hb (by omega) h1 h2 h3
theorem NxtI.add {ls:List Lg} {ch:Int} {now w:List Bool} {i j:Nat} (h:NxtI ls ch now w i j) (hj:j < w.length):NxtI ls ch now (w.set j true) i (j + 1):=fun a b hb hab h1 h2 h3 => by
  by_cases hbj:b = j
  · subst hbj; exact setD_same hj
  · rw [setD_other hbj]; exact h a b hb (by omega) h1 h2 h3
theorem NxtI.has {ls:List Lg} {ch:Int} {B:Lg → Prop} {k:Nat} {now w:List Bool} (h:NxtI ls ch now w ls.length 0) (ha:AllCE ls ch B (k:Int) now):HasNew ls ch B ((k + 1:Nat):Int) w:=fun j hj hx => by
  rcases hx with ⟨_,h1⟩ | ⟨i,h1,h2,h3,h4⟩
  · omega
  · have e:((k + 1:Nat):Int) - 1 = (k:Int):=by omega
    rw [e] at h4;exact h i j hj (.inl h1) ((ha.2 i h1).2 h4) h3 h2
theorem SomeCE.next {ls:List Lg} {ch:Int} {B:Lg → Prop} {k:Nat} {now w:List Bool} (h:SomeCE ls ch B ((k + 1:Nat):Int) w) (ha:AllCE ls ch B (k:Int) now) {i j:Nat} (hi:i < ls.length) (hj:j < ls.length) (hn:now.getD i false = true) (hc:chg1 ls i j = 1) (hjn:jn ls ch i j):SomeCE ls ch B ((k + 1:Nat):Int) (w.set j true):=by
  refine ⟨by simp [h.1],fun q hq hwq => ?_⟩
  by_cases hqj:q = j
  · subst hqj;exact (CE.step hq).2 (.inr ⟨i,k,hi,hjn,(ha.2 i hi).1 hn,by rw [hc]; omega⟩)
  · rw [setD_other hqj] at hwq;exact h.2 q hq hwq
theorem bsBB (H:Heap) (a:Option Addr) (n c:Nat):aBuildSlice Try.prog H 81 1 [(0,.slice a n c)] = some (.slice (some ⟨H.size,0,none⟩) 1 1,H.newExact [.slice a n c] 58):=by kernel_rfl
theorem okBB:ElemOk Try.prog #[81,81] 58 (sliceE boolE).sz:=⟨⟨81,81,_,Try.t58,.slice none 0 0,rfl,rfl,Try.underlying81,Try.underlying81,rfl,by kernel_rfl,by kernel_rfl,by kernel_rfl,by kernel_rfl,of_decide_eq_true (by kernel_rfl)⟩,by show 0 < 1; decide⟩
theorem chg_eq {ls:List Lg} {i j:Nat} (h:(ls.getD i default).l = (ls.getD j default).l):chg1 ls i j = 0:=by unfold chg1; rw [if_pos h]
theorem chg_ne {ls:List Lg} {i j:Nat} (h:¬ (ls.getD i default).l = (ls.getD j default).l):chg1 ls i j = 1:=by unfold chg1; rw [if_neg h]
structure AK (A X:Heap) (r:Nat) (w:List Bool) (n:Nat):Prop where
  keep:Keep A X
  own:Own X r 4 (bvs w)
  len:w.length = n
theorem AK.more {A X Y:Heap} {r n:Nat} {w:List Bool} (h:AK A X r w n) (k:Keep X Y):AK A Y r w n:=⟨h.keep.trans k,h.own.keep k,h.len⟩
theorem AK.set {A X:Heap} {r n:Nat} {w:List Bool} (h:AK A X r w n) (hr:A.size ≤ r) {j:Nat} (hj:j < n):∃ Y,aStore Try.prog X 4 (.pointer (some ⟨r,j,none⟩)) (.bool true) = some Y ∧ AK A Y r (w.set j true) n:=by
  obtain ⟨Y,h1,h2,_,h4⟩:=storeB h.own true (o:=j) (by rw [h.len]; exact hj)
  exact ⟨Y,h1,h4 A h.keep hr,h2,by rw [List.length_set]; exact h.len⟩

variable {S:AM.Sys} (hS:Only S 11)
include hS

def PostAr (ls:List Lg) (ch fr at':Int) (A:Heap) (u:Value) (H':Heap):Prop:=
  ∃ rows r o,Keep A H' ∧ Grp H' ∧ rows.length = ls.length + 1 ∧ (∀ q:Nat,q < rows.length → AllCE ls ch (BegB fr at') (q:Int) (rows.getD q [])) ∧ SlE (sliceE boolE) H' u rows r o
omit hS
set_option maxHeartbeats 8000000 in
include hS in
theorem rArriv_runs (ls:List Lg) (a:Option Addr) (c r o:Nat) (ch fr at':Int) (A H:Heap) (r0:Nat) (w0:List Bool) (hg:Grp A) (hL:A.low ≤ A.size) (hk:LOk ls ch) (h60:ls.length ≤ 60) (hl:SlG A (.slice a ls.length c) ls r o) (hfit:∀ i,i < ls.length → Fit ch (ls.getD i default))
    (kA:Keep A H) (hr0:A.size ≤ r0) (o0:Own H r0 4 (bvs w0)) (hw0:w0.length = ls.length) (hB:∀ j,j < ls.length → (w0.getD j false = true ↔ BegB fr at' (ls.getD j default))) :
    ∃ u H',Runs Try.prog S (.fn 50) [.slice a ls.length c,.int .i64 ch,.slice (some ⟨r0,0,none⟩) ls.length ls.length] H u H' ∧ PostAr ls ch fr at' A u H':=by
  suffices h:WCall Try.prog S (.fn 50) [.slice a ls.length c,.int .i64 ch,.slice (some ⟨r0,0,none⟩) ls.length ls.length] H (fun u H' => PostAr ls ch fr at' A u H') by
    obtain ⟨u,H',hr,h⟩:=h; exact ⟨u,H',hr,h⟩
  have hsome0:SomeCE ls ch (BegB fr at') ((0:Nat):Int) w0:=⟨hw0,fun j hj h => ⟨j,[],hj,(hB j hj).1 h,rfl,rfl⟩⟩
  have hnew0:HasNew ls ch (BegB fr at') ((0:Nat):Int) w0:=fun j hj hx => by
    rcases hx with ⟨h1,_⟩ | ⟨i,_,_,_,h⟩
    · exact (hB j hj).2 h1
    · have:=h.nn; omega
  refine Zabc Try.func50 rfl (Nat.le_of_ble_eq_true rfl) (hS.no rfl _ _) ?_
  rw [Try.ntmps50,Try.results50]
  repeat' (first | simp only [↓Zabz,↓Zacb,↓Zaaj,↓Zabw,↓Zaca,↓Zacy,↓Zacx,↓Zadd,↓Zaaw,↓Zaan,↓bxPut,↓Zabu,↓Zabs,↓Zadb,↓Zadc,↓Zabi,↓Zabg,Zabo,Nat.reduceLT, *])
  refine sxL_of (fun m ρ X => ∃ (k:Nat) (base:Heap) (rows:List (List Bool)) (lv:Value) (r1:Nat) (w:List Bool),m = ls.length + 1 - k ∧ k ≤ ls.length + 1 ∧ Keep A base ∧ Grp base ∧ base.size ≤ r1 ∧ AK base X r1 w ls.length ∧ SomeCE ls ch (BegB fr at') (k:Int) w ∧ HasNew ls ch (BegB fr at') (k:Int) w ∧ LstG (sliceE boolE) 58 A.size base lv rows ∧ rows.length = k ∧ (∀ q:Nat,q < k → AllCE ls ch (BegB fr at') (q:Int) (rows.getD q [])) ∧
      ρ 0 = .slice a ls.length c ∧ ρ 1 = .int .i64 ch ∧ ρ 2 = .slice (some ⟨r1,0,none⟩) ls.length ls.length ∧ ρ 7 = lv ∧ ρ 8 = .int .i64 (k:Int))
    ⟨0,A,[],.slice none 0 0,r0,w0,rfl,Nat.zero_le _,Keep.refl _,hg,hr0,⟨kA,o0,hw0⟩,hsome0,hnew0,LstG.nil,rfl,fun q hq => absurd hq (Nat.not_lt_zero q),rfl,rfl,rfl,rfl,rfl⟩ ?_
  clear hsome0 hnew0 kA hr0 o0 hw0 hB;rintro m ρ X ⟨k,base,rows,lv,r1,w,rfl,hkn,kAb,gb,hr1,ak,hsome,hnew,hlst,hrl,hrows,e0,e1,e2,e7,e8⟩
  by_cases hkl:k ≤ ls.length
  case neg =>
    have hkl':¬ (k:Int) ≤ (ls.length:Int):=by omega
    have hmx:Go.maxLen = 9223372036854775807:=rfl;have hob:=(hlst.keep ak.keep).sl (by omega)
    obtain ⟨r9,s9,_⟩:=hob;have hpost:PostAr ls ch fr at' A lv X:=⟨rows,r9,0,kAb.trans ak.keep,ak.keep.grp gb,by omega,fun q hq => hrows q (by omega),s9⟩
    clear hlst hrows hsome hnew ak s9 kAb gb hl hkl hfit
    repeat' (first | simp only [↓Zacc,↓Zabz,↓Zacb,↓Zaai,↓Zaaj,↓Zabw,↓Zaby,↓Zacy,↓Zacx,↓Zadd,↓Zaaw,↓Zaan,↓Zaaq,↓Zaao,↓bxOp_makeSlice,↓Zaau,↓Zaam,↓bxPut,↓Zabu,↓Zabt,↓Zaag,↓Zaaf,↓Zabm,↓Zabl,↓Zade,↓Zabi,↓Zabg,Zacz,Zaae,Zabk,Zacv,↓reduceIte,Nat.reduceEqDiff,Nat.reduceLT,dec_F, *,lenG])
  have hkl':(k:Int) ≤ (ls.length:Int):=by omega
  have hLb:=kAb.low hL;have hlb:=hl.keep kAb
  repeat' (first | simp only [↓Zacc,↓Zabz,↓Zacb,↓Zaai,↓Zaaj,↓Zabw,↓Zaby,↓Zacy,↓Zacx,↓Zadd,↓Zaaw,↓Zaan,↓Zaaq,↓Zaao,↓bxOp_makeSlice,↓Zaau,↓Zaam,↓bxPut,↓Zabu,↓Zabt,↓Zaag,↓Zaaf,↓Zabm,↓Zabl,↓Zade,↓Zabi,↓Zabg,Zacz,Zaae,Zabk,Zacw,↓reduceIte,Nat.reduceEqDiff,Nat.reduceLT,dec_T, *,lenG])
  refine sxL_of (fun m ρ Y => ∃ (w1:List Bool) (ag:Bool),m = 2 * opn w1 + (if ag then 1 else 0) ∧ AK base Y r1 w1 ls.length ∧ SomeCE ls ch (BegB fr at') (k:Int) w1 ∧ HasNew ls ch (BegB fr at') (k:Int) w1 ∧ (ag = false → ClosedL ls ch w1) ∧
      ρ 0 = .slice a ls.length c ∧ ρ 1 = .int .i64 ch ∧ ρ 2 = .slice (some ⟨r1,0,none⟩) ls.length ls.length ∧ ρ 7 = lv ∧ ρ 8 = .int .i64 (k:Int) ∧ ρ 9 = .bool ag)
    ⟨w,true,rfl,ak,hsome,hnew,fun h => (by cases h),e0,e1,e2,e7,e8,rfl⟩ ?_
  clear ak hsome hnew e0 e1 e2 e7 e8 ρ hkl';rintro m ρ Y ⟨w1,ag,rfl,ak,hsome,hnew,hcl,e0,e1,e2,e7,e8,e9⟩;cases ag with
  | true =>
    --PASS
    repeat' (first | simp only [↓Zacc,↓Zabz,↓Zacb,↓Zaai,↓Zaaj,↓Zabw,↓Zaby,↓Zacy,↓Zacx,↓Zadd,↓Zaaw,↓Zaan,↓bxPut,↓Zabu,↓Zabt,↓Zaaf,↓Zabl,↓Zade,↓Zabi,↓Zabg,Zacw,↓reduceIte,Nat.reduceLT, *])
    refine sxL_of (fun m ρ Z => ∃ (i:Nat) (w2:List Bool) (ag:Bool),m = ls.length - i ∧ i ≤ ls.length ∧ AK base Z r1 w2 ls.length ∧ SomeCE ls ch (BegB fr at') (k:Int) w2 ∧ HasNew ls ch (BegB fr at') (k:Int) w2 ∧ Pass ls ch w1 w2 ag i 0 ∧
        ρ 0 = .slice a ls.length c ∧ ρ 1 = .int .i64 ch ∧ ρ 2 = .slice (some ⟨r1,0,none⟩) ls.length ls.length ∧ ρ 7 = lv ∧ ρ 8 = .int .i64 (k:Int) ∧ ρ 9 = .bool ag ∧ ρ 10 = .int .i64 (i:Int))
      ⟨0,w1,false,rfl,Nat.zero_le _,ak,hsome,hnew,⟨fun _ => ⟨rfl,fun a ha => absurd ha (Nat.not_lt_zero a),fun b hb => absurd hb (Nat.not_lt_zero b)⟩,fun h => (by cases h)⟩,e0,e1,e2,e7,e8,rfl,rfl⟩ ?_
    clear ak hsome hnew e0 e1 e2 e7 e8 e9 ρ hcl;rintro m ρ Z ⟨i,w2,ag,rfl,hi,ak,hsome,hnew,hps,e0,e1,e2,e7,e8,e9,e10⟩
    by_cases hil:i < ls.length
    case neg =>
      have hil':¬ (i:Int) < (ls.length:Int):=by omega
      have hie:i = ls.length:=Nat.le_antisymm hi (Nat.not_lt.1 hil);rw [hie] at hps;have hcl2:ag = false → ClosedL ls ch w2:=fun h => by
        obtain ⟨h1,h2,_⟩:=hps.1 h;rw [h1]; exact closed_of h2
      have hms:2 * opn w2 + (if ag = true then 1 else 0) < 2 * opn w1 + 1:=by
        cases ag with
        | false => rw [(hps.1 rfl).1]; simp
        | true => have:=hps.2 rfl; simp; omega
      clear hps hie hil hi hlst hrows hlb hl hfit
      repeat' (first | simp only [↓Zacc,↓Zabz,↓Zacb,↓Zaai,↓Zaaj,↓Zabw,↓Zaby,↓Zacy,↓Zacx,↓Zadd,↓Zaaw,↓Zaan,↓Zaao,↓Zaau,↓bxPut,↓Zabu,↓Zabt,↓Zaag,↓Zaaf,↓Zabm,↓Zabl,↓Zade,↓Zabi,↓Zabg,Zacz,Zaae,Zabk,Zacv,↓reduceIte,Nat.reduceEqDiff,Nat.reduceLT,dec_F,true_and, *,lenG])
      exact ⟨_,hms,w2,ag,rfl,ak,hsome,hnew,hcl2,rfl⟩
    have hil':(i:Int) < (ls.length:Int):=by omega
    have hwi:IntKind.i64.wrap ((i:Int) + 1) = ((i + 1:Nat):Int):=IntWalk.i64_in _ (by omega)
    repeat' (first | simp only [↓Zacc,↓Zabz,↓Zacb,↓Zaai,↓Zaaj,↓Zabw,↓Zaby,↓Zacy,↓Zacx,↓Zadd,↓Zaaw,↓Zaan,↓Zaao,↓Zaau,↓bxPut,↓Zabu,↓Zabt,↓Zaag,↓Zaaf,↓Zabm,↓Zabl,↓Zade,↓Zabi,↓Zabg,Zacz,Zaae,Zabk,Zacw,↓reduceIte,Nat.reduceEqDiff,Nat.reduceLT,dec_T, *,lenG])
    refine sxL_of (fun m ρ V => ∃ (j:Nat) (w3:List Bool) (ag:Bool),m = ls.length - j ∧ j ≤ ls.length ∧ AK base V r1 w3 ls.length ∧ SomeCE ls ch (BegB fr at') (k:Int) w3 ∧ HasNew ls ch (BegB fr at') (k:Int) w3 ∧ Pass ls ch w1 w3 ag i j ∧
        ρ 0 = .slice a ls.length c ∧ ρ 1 = .int .i64 ch ∧ ρ 2 = .slice (some ⟨r1,0,none⟩) ls.length ls.length ∧ ρ 7 = lv ∧ ρ 8 = .int .i64 (k:Int) ∧ ρ 9 = .bool ag ∧ ρ 10 = .int .i64 (i:Int) ∧ ρ 11 = .int .i64 (j:Int))
      ⟨0,w2,ag,rfl,Nat.zero_le _,ak,hsome,hnew,hps,e0,e1,e2,e7,e8,e9,e10,rfl⟩ ?_
    clear ak hsome hnew e0 e1 e2 e7 e8 e9 e10 ρ hps ag;rintro m ρ V ⟨j,w3,ag,rfl,hj,ak,hsome,hnew,hps,e0,e1,e2,e7,e8,e9,e10,e11⟩
    by_cases hjl:j < ls.length
    case neg =>
      have hjl':¬ (j:Int) < (ls.length:Int):=by omega
      have hje:j = ls.length:=Nat.le_antisymm hj (Nat.not_lt.1 hjl);rw [hje] at hps;have hps2:=hps.row;clear hps hje hjl hj hlst hrows hlb hl hfit
      repeat' (first | simp only [↓Zacc,↓Zabx,↓Zabz,↓Zacb,↓Zaai,↓Zabw,↓Zaby,↓Zacy,↓Zacx,↓Zacq,↓Zaak,↓Zacl,↓Zacm,↓Zack,↓Zacg,↓Zacn,↓Zaci,↓Zacj,↓Zadd,↓Zabb,↓Zaaw,↓Zaan,↓Zaax,↓Zaav,↓Zaay,↓Zaao,↓Zaaz,↓Zaas,↓Zaat,↓Zaba,↓Zaau,↓Zada,↓bxPut,↓Zabu,↓Zabt,↓Zaag,↓Zaaf,↓Zabm,↓Zabl,↓Zade,↓Zabi,↓Zabg,↓Zabh,↓dstAt,↓Zabj,Zacz,Zaae,Zabk,Zacd,Zacv,List.nil_append,↓reduceIte,Nat.reduceEqDiff,Nat.reduceLT,dec_F,true_and, *,lenG] | (with_reducible first | refine Zacf (by assumption) (by decide +kernel) ?_ | refine Zace (by decide +kernel) ?_ | refine Zaco (by decide +kernel) ?_ | refine Zach ?_))
      exact ⟨ls.length - (i + 1),by omega,i + 1,w3,ag,rfl,by omega,ak,hsome,hnew,hps2,rfl,rfl⟩
    have hjl':(j:Int) < (ls.length:Int):=by omega
    have hwj:IntKind.i64.wrap ((j:Int) + 1) = ((j + 1:Nat):Int):=IntWalk.i64_in _ (by omega)
    have hLV:=ak.keep.low hLb;have rdi:=readB ak.own (k:=i) (by rw [ak.len]; exact hil)
    have rdj:=readB ak.own (k:=j) (by rw [ak.len]; exact hjl)
    have ixi:=ixBn (r:=r1) hil;have ixj:=ixBn (r:=r1) hjl;have hgb:∃ b1 b2,b1 = w3.getD i false ∧ b2 = w3.getD j false:=⟨_,_,rfl,rfl⟩;obtain ⟨b1,b2,hb1,hb2⟩:=hgb;rw [← hb1] at rdi;rw [← hb2] at rdj;cases b1 with
    | false =>
      have hps2:=hps.skip (fun h => by rw [← hb1] at h; cases h)
      clear hps hb1 hb2 hlst hrows hlb hl hfit rdj ixj
      repeat' (first | simp only [↓Zacc,↓Zabx,↓Zabz,↓Zacb,↓Zaai,↓Zabw,↓Zaby,↓Zacy,↓Zacx,↓Zacq,↓Zaak,↓Zacl,↓Zacm,↓Zack,↓Zacg,↓Zacn,↓Zaci,↓Zacj,↓Zacp,↓Zadd,↓Zabb,↓Zaaw,↓Zaan,↓Zaax,↓Zaav,↓Zaay,↓Zaao,↓Zaaz,↓Zaas,↓Zaat,↓Zaba,↓Zaau,↓Zada,↓bxPut,↓Zabu,↓Zabt,↓Zaag,↓Zaaf,↓Zabm,↓Zabl,↓Zade,↓Zabi,↓Zabg,↓Zabh,↓dstAt,↓Zabj,Zacz,Zaae,Zabk,Zaac,Zacd,Zact,Zacw,Zacv,List.nil_append,↓reduceIte,Nat.reduceEqDiff,Nat.reduceLT,dec_T,true_and,Zaab,one1,Option.bind_some, *,lenG,ldBo] | (with_reducible first | refine Zacf (by assumption) (by decide +kernel) ?_ | refine Zace (by decide +kernel) ?_ | refine Zaco (by decide +kernel) ?_ | refine Zach ?_))
      exact ⟨ls.length - (j + 1),by omega,j + 1,w3,ag,rfl,by omega,ak,hsome,hnew,hps2,rfl,rfl⟩
    | true =>
    cases b2 with
    | true =>
      have hps2:=hps.skip (fun _ _ _ => hb2.symm)
      clear hps hb1 hb2 hlst hrows hlb hl hfit
      repeat' (first | simp only [↓Zacc,↓Zabx,↓Zabz,↓Zacb,↓Zaai,↓Zabw,↓Zaby,↓Zacy,↓Zacx,↓Zacq,↓Zaak,↓Zacl,↓Zacm,↓Zack,↓Zacg,↓Zacn,↓Zaci,↓Zacj,↓Zacp,↓Zadd,↓Zabb,↓Zaaw,↓Zaan,↓Zaax,↓Zaav,↓Zaay,↓Zaao,↓Zaaz,↓Zaas,↓Zaat,↓Zaba,↓Zaau,↓Zada,↓bxPut,↓Zabu,↓Zabt,↓Zaag,↓Zaaf,↓Zabm,↓Zabl,↓Zade,↓Zabi,↓Zabg,↓Zabh,↓dstAt,↓Zabj,Zacz,Zaae,Zabk,una_nt,Zaad,Zaac,Zacd,Zacu,Zact,Zacw,Zacv,List.nil_append,↓reduceIte,Nat.reduceEqDiff,Nat.reduceLT,dec_T,true_and,Zaab,one1,Option.bind_some, *,lenG,ldBo] | (with_reducible first | refine Zacf (by assumption) (by decide +kernel) ?_ | refine Zace (by decide +kernel) ?_ | refine Zaco (by decide +kernel) ?_ | refine Zach ?_))
      exact ⟨ls.length - (j + 1),by omega,j + 1,w3,ag,rfl,by omega,ak,hsome,hnew,hps2,rfl,rfl⟩
    | false =>
    have hob:=SlG_at (hlb.keep ak.keep) hil;obtain ⟨q1,ixg1,rg1,_,_,_,_,rl1⟩:=hob;have hob:=SlG_at (hlb.keep ak.keep) hjl;obtain ⟨q2,ixg2,rg2,_,_,_,_,rl2⟩:=hob
    by_cases hll:(ls.getD i default).l = (ls.getD j default).l
    case neg =>
      have dl:decide ((ls.getD i default).l = (ls.getD j default).l) = false:=decide_eq_false hll;have hps2:=hps.skip (fun _ h2 _ => by rw [chg_ne hll] at h2; cases h2)
      clear hps hb1 hb2 hlst hrows hlb hl hfit hll rg1 rg2
      repeat' (first | simp only [↓Zacc,↓Zabx,↓Zabz,↓Zacb,↓Zaai,↓Zabw,↓Zaby,↓Zacy,↓Zacx,↓Zacq,↓Zaak,↓Zacl,↓Zacm,↓Zack,↓Zacg,↓Zacn,↓Zaci,↓Zacj,↓Zacp,↓Zadd,↓Zabb,↓Zaaw,↓Zaan,↓Zaax,↓Zaav,↓Zaay,↓Zaao,↓Zaaz,↓Zaas,↓Zaat,↓Zaba,↓Zaau,↓Zada,↓bxPut,↓Zabu,↓Zabt,↓Zaag,↓Zaaf,↓Zabm,↓Zabl,↓Zade,↓Zabi,↓Zabg,↓Zabh,↓dstAt,↓Zabj,Zacz,Zaae,Zabk,una_nf,Zaad,Zaac,Zacd,Zacu,Zact,Zacw,Zacv,List.nil_append,↓reduceIte,Nat.reduceEqDiff,Nat.reduceLT,dec_T,true_and,Zaab,one1,Option.bind_some, *,lenG,ldBo,ldC,faG4,one1] | (with_reducible first | refine Zacf (by assumption) (by decide +kernel) ?_ | refine Zace (by decide +kernel) ?_ | refine Zaco (by decide +kernel) ?_ | refine Zach ?_))
      exact ⟨ls.length - (j + 1),by omega,j + 1,w3,ag,rfl,by omega,ak,hsome,hnew,hps2,rfl,rfl⟩
    have dl:decide ((ls.getD i default).l = (ls.getD j default).l) = true:=decide_eq_true hll;have hob:=drawn hLV (joins_runs hS (ls.getD i default) (ls.getD j default) ch (hfit i hil) (V.relow V.size));obtain ⟨V1,V2,k2,l2,f2,fd2⟩:=hob;have ak2:=ak.more k2
    by_cases hjn:jn ls ch i j
    case neg =>
      have hjb:joinB ch (ls.getD i default) (ls.getD j default) = false:=Bool.eq_false_iff.2 hjn;rw [hjb] at f2;have hps2:=hps.skip (fun _ _ h3 => absurd h3 hjn)
      clear hps hb1 hb2 hlst hrows hlb hl hfit hll hjn hjb ak k2
      repeat' (first | simp only [↓Zacc,↓Zabx,↓Zabz,↓Zacb,↓Zaai,↓Zabw,↓Zaby,↓Zacy,↓Zacx,↓Zacq,↓Zaak,↓Zacl,↓Zacm,↓Zack,↓Zacg,↓Zacn,↓Zaci,↓Zacj,↓Zacp,↓Zadd,↓Zabb,↓Zaaw,↓Zaan,↓Zaax,↓Zaav,↓Zaay,↓Zaao,↓Zaaz,↓Zaas,↓Zaat,↓Zaba,↓Zaau,↓Zada,↓bxPut,↓Zabu,↓Zabt,↓Zaag,↓Zaaf,↓Zabm,↓Zabl,↓Zade,↓Zabi,↓Zabg,↓Zabh,↓dstAt,↓Zabj,Zacz,Zaae,Zabk,una_nf,Zaad,Zacd,Zacu,Zacw,Zacv,List.map_cons,List.map_nil,List.nil_append,List.append_nil,↓reduceIte,Nat.reduceEqDiff,Nat.reduceLT,dec_T,true_and,Zaab,one1,Option.bind_some,Option.map_some, *,lenG,ldBo,ldC,ldG,faG4,one1] | (with_reducible first | refine Zacf (by assumption) (by decide +kernel) ?_ | refine Zace (by decide +kernel) ?_ | refine Zaco (by decide +kernel) ?_ | refine Zach ?_))
      exact ⟨ls.length - (j + 1),by omega,j + 1,w3,ag,rfl,by omega,ak2,hsome,hnew,hps2,rfl,rfl⟩
    have hjb:joinB ch (ls.getD i default) (ls.getD j default) = true:=hjn;rw [hjb] at f2;have hps2:=hps.add (by rw [ak.len]; exact hjl) hb2.symm
    have hsome2:=hsome.step hil hjl hb1.symm (chg_eq hll) hjn;have hnew2:=hnew.step ak.len j;have hob:=ak2.set hr1 hjl;obtain ⟨V3,st3,ak3⟩:=hob;clear hps hb1 hb2 hlst hrows hlb hl hfit hll hjn hjb ak ak2 k2 hsome hnew
    repeat' (first | simp only [↓Zacc,↓Zabx,↓Zabz,↓Zacb,↓Zaai,↓Zabw,↓Zaby,↓Zacy,↓Zacx,↓Zacq,↓Zaak,↓Zacl,↓Zacm,↓Zack,↓Zacg,↓Zacn,↓Zaci,↓Zacj,↓Zacp,↓Zadd,↓Zabb,↓Zaaw,↓Zaan,↓Zaax,↓Zaav,↓Zaay,↓Zaao,↓Zaaz,↓Zaas,↓Zaat,↓Zaba,↓Zaau,↓Zada,↓bxPut,↓Zabu,↓Zabt,↓Zaag,↓Zaaf,↓Zabm,↓Zabl,↓Zade,↓Zabi,↓Zabg,↓Zabh,↓dstAt,↓Zabj,Zacz,Zaae,Zabk,una_nf,Zaad,Zacd,Zacu,Zacw,List.map_cons,List.map_nil,List.nil_append,List.append_nil,↓reduceIte,Nat.reduceEqDiff,Nat.reduceLT,dec_T,true_and,Zaab,one1,Option.bind_some,Option.map_some, *,lenG,ldBo,ldC,ldG,faG4,one1] | (with_reducible first | refine Zacf (by assumption) (by decide +kernel) ?_ | refine Zace (by decide +kernel) ?_ | refine Zaco (by decide +kernel) ?_ | refine Zach ?_))
    exact ⟨ls.length - (j + 1),by omega,j + 1,_,true,rfl,by omega,ak3,hsome2,hnew2,hps2,rfl,rfl⟩
  | false =>
    --NEXT
    have hall:=AllCE.of hsome hnew (hcl rfl);have gY:=ak.keep.grp gb;have lo:=ak.keep.low hLb;have sl1:=slB ak.own (by rw [ak.len]; omega)
    rw [ak.len] at sl1;have hob:=(hlst.keep ak.keep).push (P:=Try.prog) (ts:=#[81,81]) okBB (stable_slice (stable_bool 0)) gY (kAb.trans ak.keep).size (x:=w1) (es:=[.slice (some ⟨r1,0,none⟩) ls.length ls.length]) ⟨_,r1,0,rfl,sl1⟩ rfl (by omega) 58
    obtain ⟨v2,Y2,ap2,l2,gr2⟩:=hob;have bs2:=bsBB Y (some ⟨r1,0,none⟩) ls.length ls.length;have kA2:=gr2.base A hg (kAb.trans ak.keep) (Nat.le_refl _);have gY2:=gr2.grp gY;have lo2:=gr2.low lo;have own2:Own Y2 r1 4 (bvs w1):=⟨(gr2.ge.row r1 _ (Nat.zero_le _) ak.own.lt ak.own.get).1,Nat.lt_of_lt_of_le ak.own.lt gr2.ge.size⟩;have hw1:=ak.len;have hob:=mkBn Y2 h60;obtain ⟨Y3,mk3,k3,o3⟩:=hob;have ak3:AK Y2 Y3 Y2.size (List.replicate ls.length false) ls.length:=⟨k3,o3,by simp⟩
    have hl2:=hl.keep kA2;have hsm3:SomeCE ls ch (BegB fr at') ((k + 1:Nat):Int) (List.replicate ls.length false):=⟨by simp,fun j hj h => by rw [replF] at h; cases h⟩
    have hnx3:NxtI ls ch w1 (List.replicate ls.length false) 0 0:=fun a b _ hab => by omega
    have hrl2:(rows ++ [w1]).length = k + 1:=by rw [List.length_append,hrl]; rfl
    have hrows2:∀ q:Nat,q < k + 1 → AllCE ls ch (BegB fr at') (q:Int) ((rows ++ [w1]).getD q []):=fun q hq => by
      rcases Nat.lt_or_ge q k with h | h
      · rw [List.getD_eq_getElem?_getD,List.getElem?_append_left (by omega),← List.getD_eq_getElem?_getD]; exact hrows q h
      · have:q = k:=by omega
        subst this;rw [List.getD_eq_getElem?_getD,List.getElem?_append_right (by omega),hrl,Nat.sub_self]
        exact hall
    obtain ⟨rows2,hrw2⟩:∃ z,z = rows ++ [w1]:=⟨_,rfl⟩;rw [← hrw2] at hrl2 hrows2 l2;clear hsome hnew hcl ak sl1 gr2 gY lo hlst hrows hlb hLb hr1 hrw2 k3 o3
    repeat' (first | simp only [↓Zacc,↓Zabz,↓Zacb,↓Zaai,↓Zaaj,↓Zabw,↓Zaby,↓Zacy,↓Zacx,↓Zadd,↓Zaaw,↓Zaan,↓bxPut,↓Zabu,↓Zabt,↓Zaaf,↓Zabl,↓Zade,↓Zabi,↓Zabg,Zacz,Zacv,List.map_cons,List.map_nil,↓reduceIte,Nat.reduceEqDiff,Nat.reduceLT, *,lenG])
    clear ap2 bs2 mk3
    refine sxL_of (fun m ρ Z => ∃ (i:Nat) (w3:List Bool),m = ls.length - i ∧ i ≤ ls.length ∧ AK Y2 Z Y2.size w3 ls.length ∧ SomeCE ls ch (BegB fr at') ((k + 1:Nat):Int) w3 ∧ NxtI ls ch w1 w3 i 0 ∧
        ρ 0 = .slice a ls.length c ∧ ρ 1 = .int .i64 ch ∧ ρ 2 = .slice (some ⟨r1,0,none⟩) ls.length ls.length ∧ ρ 7 = v2 ∧ ρ 8 = .int .i64 (k:Int) ∧ ρ 12 = .slice (some ⟨Y2.size,0,none⟩) ls.length ls.length ∧ ρ 13 = .int .i64 (i:Int))
      ⟨0,_,rfl,Nat.zero_le _,ak3,hsm3,hnx3,e0,e1,e2,rfl,e8,rfl,rfl⟩ ?_
    clear ak3 hsm3 hnx3 e0 e1 e2 e7 e8 e9 ρ;rintro m ρ Z ⟨i,w3,rfl,hi,ak,hsome,hnx,e0,e1,e2,e7,e8,e12,e13⟩
    by_cases hil:i < ls.length
    case neg =>
      have hil':¬ (i:Int) < (ls.length:Int):=by omega
      have hie:i = ls.length:=Nat.le_antisymm hi (Nat.not_lt.1 hil);rw [hie] at hnx;have hnew:=hnx.has hall;have hwk:IntKind.i64.wrap ((k:Int) + 1) = ((k + 1:Nat):Int):=IntWalk.i64_in _ (by omega)
      have hle2:=Nat.le_refl Y2.size;clear hnx hie hil hi hl2 hl hfit hall own2 hw1 lo2 hk hL
      repeat' (first | simp only [↓Zacc,↓Zabz,↓Zacb,↓Zaai,↓Zaaj,↓Zabw,↓Zaby,↓Zacy,↓Zacx,↓Zadd,↓Zaaw,↓Zaan,↓Zaao,↓Zaau,↓bxPut,↓Zabu,↓Zabt,↓Zaaf,↓Zabm,↓Zabl,↓Zade,↓Zabi,↓Zabg,Zacz,Zaae,Zabk,Zacv,↓reduceIte,Nat.reduceEqDiff,Nat.reduceLT,dec_F,true_and, *,lenG])
      exact ⟨ls.length + 1 - (k + 1),by omega,k + 1,Y2,rows2,v2,Y2.size,w3,rfl,by omega,kA2,gY2,hle2,ak,hsome,hnew,l2,hrl2,hrows2,rfl,rfl,rfl⟩
    have hil':(i:Int) < (ls.length:Int):=by omega
    have hwi:IntKind.i64.wrap ((i:Int) + 1) = ((i + 1:Nat):Int):=IntWalk.i64_in _ (by omega)
    repeat' (first | simp only [↓Zacc,↓Zabz,↓Zacb,↓Zaai,↓Zaaj,↓Zabw,↓Zaby,↓Zacy,↓Zacx,↓Zadd,↓Zaaw,↓Zaan,↓Zaao,↓Zaau,↓bxPut,↓Zabu,↓Zabt,↓Zaaf,↓Zabm,↓Zabl,↓Zade,↓Zabi,↓Zabg,Zacz,Zaae,Zabk,Zacw,↓reduceIte,Nat.reduceEqDiff,Nat.reduceLT,dec_T, *,lenG])
    refine sxL_of (fun m ρ V => ∃ (j:Nat) (w3:List Bool),m = ls.length - j ∧ j ≤ ls.length ∧ AK Y2 V Y2.size w3 ls.length ∧ SomeCE ls ch (BegB fr at') ((k + 1:Nat):Int) w3 ∧ NxtI ls ch w1 w3 i j ∧
        ρ 0 = .slice a ls.length c ∧ ρ 1 = .int .i64 ch ∧ ρ 2 = .slice (some ⟨r1,0,none⟩) ls.length ls.length ∧ ρ 7 = v2 ∧ ρ 8 = .int .i64 (k:Int) ∧ ρ 12 = .slice (some ⟨Y2.size,0,none⟩) ls.length ls.length ∧ ρ 13 = .int .i64 (i:Int) ∧ ρ 14 = .int .i64 (j:Int))
      ⟨0,w3,rfl,Nat.zero_le _,ak,hsome,hnx,e0,e1,e2,e7,e8,e12,e13,rfl⟩ ?_
    clear ak hsome hnx e0 e1 e2 e7 e8 e12 e13 ρ w3;rintro m ρ V ⟨j,w3,rfl,hj,ak,hsome,hnx,e0,e1,e2,e7,e8,e12,e13,e14⟩
    by_cases hjl:j < ls.length
    case neg =>
      have hjl':¬ (j:Int) < (ls.length:Int):=by omega
      have hje:j = ls.length:=Nat.le_antisymm hj (Nat.not_lt.1 hjl);rw [hje] at hnx;have hnx2:=hnx.row;clear hnx hje hjl hj hl2 hl hfit hall own2 hw1 lo2 hk hL hrows2 l2
      repeat' (first | simp only [↓Zacc,↓Zabx,↓Zabz,↓Zacb,↓Zaai,↓Zabw,↓Zaby,↓Zacy,↓Zacx,↓Zacq,↓Zaak,↓Zacl,↓Zacm,↓Zack,↓Zacg,↓Zaci,↓Zacj,↓Zadd,↓Zabb,↓Zaaw,↓Zaan,↓Zaax,↓Zaav,↓Zaay,↓Zaao,↓Zaas,↓Zaat,↓Zaba,↓Zaau,↓Zada,↓bxPut,↓Zabu,↓Zabt,↓Zaag,↓Zaaf,↓Zabm,↓Zabl,↓Zade,↓Zabi,↓Zabg,↓Zabh,↓dstAt,↓Zabj,Zacz,Zaae,Zabk,Zacd,Zacv,List.nil_append,↓reduceIte,Nat.reduceEqDiff,Nat.reduceLT,dec_F,true_and, *,lenG] | (with_reducible first | refine Zacf (by assumption) (by decide +kernel) ?_ | refine Zace (by decide +kernel) ?_ | refine Zaco (by decide +kernel) ?_ | refine Zach ?_))
      exact ⟨ls.length - (i + 1),by omega,i + 1,w3,rfl,by omega,ak,hsome,hnx2,rfl⟩
    have hjl':(j:Int) < (ls.length:Int):=by omega
    have hwj:IntKind.i64.wrap ((j:Int) + 1) = ((j + 1:Nat):Int):=IntWalk.i64_in _ (by omega)
    have hLV:=ak.keep.low lo2;have rdi:=readB (own2.keep ak.keep) (k:=i) (by rw [hw1]; exact hil)
    have ixi:=ixBn (r:=r1) hil;have ixj:=ixBn (r:=Y2.size) hjl;have hgb:∃ b1,b1 = w1.getD i false:=⟨_,rfl⟩;obtain ⟨b1,hb1⟩:=hgb;rw [← hb1] at rdi;cases b1 with
    | false =>
      have hnx2:=hnx.skip (fun h _ _ => by rw [← hb1] at h; cases h)
      clear hnx hb1 hl2 hl hfit hall own2 hw1 lo2 hk hL hrows2 l2 ixj
      repeat' (first | simp only [↓Zacc,↓Zabx,↓Zabz,↓Zacb,↓Zaai,↓Zabw,↓Zaby,↓Zacy,↓Zacx,↓Zacq,↓Zaak,↓Zacl,↓Zacm,↓Zack,↓Zacg,↓Zaci,↓Zacj,↓Zacp,↓Zadd,↓Zabb,↓Zaaw,↓Zaan,↓Zaax,↓Zaav,↓Zaay,↓Zaao,↓Zaas,↓Zaat,↓Zaba,↓Zaau,↓Zada,↓bxPut,↓Zabu,↓Zabt,↓Zaag,↓Zaaf,↓Zabm,↓Zabl,↓Zade,↓Zabi,↓Zabg,↓Zabh,↓dstAt,↓Zabj,Zacz,Zaae,Zabk,Zaac,Zacd,Zact,Zacw,Zacv,List.nil_append,↓reduceIte,Nat.reduceEqDiff,Nat.reduceLT,dec_T,true_and,Zaab,one1,Option.bind_some, *,lenG,ldBo] | (with_reducible first | refine Zacf (by assumption) (by decide +kernel) ?_ | refine Zace (by decide +kernel) ?_ | refine Zaco (by decide +kernel) ?_ | refine Zach ?_))
      exact ⟨ls.length - (j + 1),by omega,j + 1,w3,rfl,by omega,ak,hsome,hnx2,rfl⟩
    | true =>
    have hob:=SlG_at (hl2.keep ak.keep) hil;obtain ⟨q1,ixg1,rg1,_,_,_,_,rl1⟩:=hob;have hob:=SlG_at (hl2.keep ak.keep) hjl;obtain ⟨q2,ixg2,rg2,_,_,_,_,rl2⟩:=hob
    by_cases hll:(ls.getD i default).l = (ls.getD j default).l
    · have dl:decide (¬ (ls.getD i default).l = (ls.getD j default).l) = false:=decide_eq_false (fun h => h hll)
      have hnx2:=hnx.skip (fun _ h2 _ => by rw [chg_eq hll] at h2; cases h2)
      clear hnx hb1 hl2 hl hfit hall own2 hw1 lo2 hk hL hrows2 l2 ixj hll rg1 rg2
      repeat' (first | simp only [↓Zacc,↓Zabx,↓Zabz,↓Zacb,↓Zaai,↓Zabw,↓Zaby,↓Zacy,↓Zacx,↓Zacq,↓Zaak,↓Zacl,↓Zacm,↓Zack,↓Zacg,↓Zaci,↓Zacj,↓Zacp,↓Zadd,↓Zabb,↓Zaaw,↓Zaan,↓Zaax,↓Zaav,↓Zaay,↓Zaao,↓Zaas,↓Zaat,↓Zaba,↓Zaau,↓Zada,↓bxPut,↓Zabu,↓Zabt,↓Zaag,↓Zaaf,↓Zabm,↓Zabl,↓Zade,↓Zabi,↓Zabg,↓Zabh,↓dstAt,↓Zabj,Zacz,Zaae,Zabk,Zaad,Zaac,Zacd,Zacu,Zact,Zacw,Zacv,List.nil_append,↓reduceIte,Nat.reduceEqDiff,Nat.reduceLT,dec_T,true_and,Zaab,one1,Option.bind_some, *,lenG,ldBo,ldC,faG4,one1] | (with_reducible first | refine Zacf (by assumption) (by decide +kernel) ?_ | refine Zace (by decide +kernel) ?_ | refine Zaco (by decide +kernel) ?_ | refine Zach ?_))
      exact ⟨ls.length - (j + 1),by omega,j + 1,w3,rfl,by omega,ak,hsome,hnx2,rfl⟩
    have dl:decide (¬ (ls.getD i default).l = (ls.getD j default).l) = true:=decide_eq_true hll;have hob:=drawn hLV (joins_runs hS (ls.getD i default) (ls.getD j default) ch (hfit i hil) (V.relow V.size));obtain ⟨V1,V2,k2,l2',f2,fd2⟩:=hob;have ak2:=ak.more k2
    by_cases hjn:jn ls ch i j
    case neg =>
      have hjb:joinB ch (ls.getD i default) (ls.getD j default) = false:=Bool.eq_false_iff.2 hjn;rw [hjb] at f2;have hnx2:=hnx.skip (fun _ _ h3 => absurd h3 hjn)
      clear hnx hb1 hl2 hl hfit hall own2 hw1 lo2 hk hL hrows2 l2 ixj hll hjn hjb ak k2
      repeat' (first | simp only [↓Zacc,↓Zabx,↓Zabz,↓Zacb,↓Zaai,↓Zabw,↓Zaby,↓Zacy,↓Zacx,↓Zacq,↓Zaak,↓Zacl,↓Zacm,↓Zack,↓Zacg,↓Zaci,↓Zacj,↓Zacp,↓Zadd,↓Zabb,↓Zaaw,↓Zaan,↓Zaax,↓Zaav,↓Zaay,↓Zaao,↓Zaas,↓Zaat,↓Zaba,↓Zaau,↓Zada,↓bxPut,↓Zabu,↓Zabt,↓Zaag,↓Zaaf,↓Zabm,↓Zabl,↓Zade,↓Zabi,↓Zabg,↓Zabh,↓dstAt,↓Zabj,Zacz,Zaae,Zabk,Zaad,Zacd,Zacu,Zacw,Zacv,List.map_cons,List.map_nil,List.nil_append,List.append_nil,↓reduceIte,Nat.reduceEqDiff,Nat.reduceLT,dec_T,true_and,Zaab,one1,Option.bind_some,Option.map_some, *,lenG,ldBo,ldC,ldG,faG4,one1] | (with_reducible first | refine Zacf (by assumption) (by decide +kernel) ?_ | refine Zace (by decide +kernel) ?_ | refine Zaco (by decide +kernel) ?_ | refine Zach ?_))
      exact ⟨ls.length - (j + 1),by omega,j + 1,w3,rfl,by omega,ak2,hsome,hnx2,rfl⟩
    have hjb:joinB ch (ls.getD i default) (ls.getD j default) = true:=hjn;rw [hjb] at f2;have hnx2:=hnx.add (by rw [ak.len]; exact hjl)
    have hsome2:=hsome.next hall hil hjl hb1.symm (chg_ne hll) hjn;have hob:=ak2.set (Nat.le_refl _) hjl;obtain ⟨V3,st3,ak3⟩:=hob;clear hnx hb1 hl2 hl hfit hall own2 hw1 lo2 hk hL hrows2 l2 hll hjn hjb ak ak2 k2 hsome
    repeat' (first | simp only [↓Zacc,↓Zabx,↓Zabz,↓Zacb,↓Zaai,↓Zabw,↓Zaby,↓Zacy,↓Zacx,↓Zacq,↓Zaak,↓Zacl,↓Zacm,↓Zack,↓Zacg,↓Zaci,↓Zacj,↓Zacp,↓Zadd,↓Zabb,↓Zaaw,↓Zaan,↓Zaax,↓Zaav,↓Zaay,↓Zaao,↓Zaas,↓Zaat,↓Zaba,↓Zaau,↓Zada,↓bxPut,↓Zabu,↓Zabt,↓Zaag,↓Zaaf,↓Zabm,↓Zabl,↓Zade,↓Zabi,↓Zabg,↓Zabh,↓dstAt,↓Zabj,Zacz,Zaae,Zabk,Zaad,Zacd,Zacu,Zacw,List.map_cons,List.map_nil,List.nil_append,List.append_nil,↓reduceIte,Nat.reduceEqDiff,Nat.reduceLT,dec_T,true_and,Zaab,one1,Option.bind_some,Option.map_some, *,lenG,ldBo,ldC,ldG,faG4,one1] | (with_reducible first | refine Zacf (by assumption) (by decide +kernel) ?_ | refine Zace (by decide +kernel) ?_ | refine Zaco (by decide +kernel) ?_ | refine Zach ?_))
    exact ⟨ls.length - (j + 1),by omega,j + 1,_,rfl,by omega,ak3,hsome2,hnx2,rfl⟩
end Go.Proofs.Yteechkbnccpicaa
