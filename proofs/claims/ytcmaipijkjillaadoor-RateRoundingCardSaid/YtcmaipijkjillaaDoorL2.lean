/- The law RateRounding on the canonical machine. -/
import Derived.Test.YtcmaipijkjillaaDoorL1
import Derived.Test.YtcmaipijkjillaaDoorKA
set_option linter.unusedVariables false
set_option linter.unusedSimpArgs false
set_option linter.unusedSectionVars false

namespace Go.Proofs.YtcmaipijkjillaaDoor
open Go Go.AM
set_option maxRecDepth 10000

theorem pow50b {k:Nat} (h:k ≤ 20):(50:Int) ^ k ≤ 9536743164062500000000000000000000:=by
  have h1:∀ k:Fin 21,(50:Int) ^ k.1 ≤ 9536743164062500000000000000000000:=by decide
  exact h1 ⟨k,by omega⟩
theorem ltB {z:Int} (h:0 ≤ z ∧ z ≤ 9536743164062500000000000000000000):(z.natAbs:Int) < 10000 ^ 20:=by rw [big20]; omega
theorem ltB' {z:Int} (h:0 ≤ z ∧ z ≤ 9536743164062500000000000000000000):z < 10000 ^ 20:=by rw [big20]; omega
theorem worth_step {a am N D n d q:Int} (h:a * D ≤ am * N) (hq:q * d ≤ a * n) (hD:0 ≤ D) (hn:0 ≤ n):q * (D * d) ≤ am * (N * n):=by
  have h1:q * d * D ≤ a * n * D:=Int.mul_le_mul_of_nonneg_right hq hD;have h2:a * D * n ≤ am * N * n:=Int.mul_le_mul_of_nonneg_right h hn;have e1:q * (D * d) = q * d * D:=by rw [Int.mul_comm D d,Int.mul_assoc]
  have e2:a * n * D = a * D * n:=by rw [Int.mul_assoc,Int.mul_comm n D,← Int.mul_assoc]
  have e3:am * (N * n) = am * N * n:=(Int.mul_assoc _ _ _).symm;omega
theorem worth_end {a am N D:Int} (h:a * D ≤ am * N) (hN:N ≤ D) (hD:1 ≤ D) (ha:0 ≤ am):a ≤ am:=by
  have h1:am * N ≤ am * D:=Int.mul_le_mul_of_nonneg_left hN ha;exact Int.le_of_mul_le_mul_right (Int.le_trans h h1) (by omega)
theorem shieldG {G:Prop} (h:∀ P:Prop,P = G → P):G:=h G rfl
def Hold {α:Type} (a b:α):Prop:=a = b
theorem cutC {P S n A B ρ H Q} (h:∀ B',Hold B' B → sxC P S n (Code.seq A B') ρ H Q):sxC P S n (Code.seq A B) ρ H Q:=h B rfl
theorem one_sl {H:Heap} {z:Int} (hz:-9223372036854775808 ≤ z ∧ z ≤ 9223372036854775807):∃ Hb,H.newExact [.int .i64 z] 3 = Hb ∧ Keep H Hb ∧ SlI .i64 Hb (.slice (some ⟨H.size,0,none⟩) 1 1) [z] H.size 0:=by
  obtain ⟨Hb,eb,kb,zb,_,rb⟩:=box1 H [.int .i64 z] 3;refine ⟨Hb,eb,kb,⟨_,1,rfl,fun _ => rfl⟩,fun i hi => ?_,fun _ => zb,(by decide:1 ≤ 9223372036854775807)⟩
  have hi0:i = 0:=by have hi:i < 1:=hi; omega
  subst hi0;exact ⟨_,rb 0 1 (Nat.le_refl 1),rfl,hz⟩

variable {S:AM.Sys} (hS:Only S 6)
include hS

theorem few_runs (l:List Off) (vl:Value) (r o:Nat) (H:Heap) (hl:SlO H vl l r o):Runs Tryd.prog S (.fn 5) [vl] H (.bool (decide ((l.length:Int) ≤ 60))) H:=by
  suffices h:WCall Tryd.prog S (.fn 5) [vl] H (fun v H' => v = .bool (decide ((l.length:Int) ≤ 60)) ∧ H' = H) by
    obtain ⟨_,_,hr,rfl,rfl⟩:=h; exact hr
  obtain ⟨a,cap,rfl⟩:=hl.v0;refine call_of Tryd.func5 rfl (Nat.le_of_ble_eq_true rfl) (hS.no rfl _ _) ?_
  rw [Tryd.ntmps5,Tryd.results5]
  repeat' simp only [↓Zabo,↓Zabq,↓Zabp,↓Zacj,↓Zaci,↓Zaco,↓Zaar,↓Zaak,↓Zaal,↓Zaap,↓bxPut,↓Zabj,↓Zabh,↓Zacm,↓Zacn,↓Zacp,↓Zaaz,↓Zaax,Zack,Zaad,Zabb,Zabe,↓reduceIte,Nat.reduceEqDiff,Nat.reduceLT,and_self, *,argF,List.getD_cons_zero,lenO]

set_option maxHeartbeats 8000000 in
theorem rr_law (n:Int) (l:List Off) (w:List Int) (am:Int) (vl vw:Value) (r o r' o':Nat) (H:Heap) (hgr:Grp H) (hL:H.low ≤ H.size) (hl:SlO H vl l r o) (hw:SlI .i64 H vw w r' o') (h0:H.read 0 0 2 = some [.int .i64 1,.int .i64 1]) (h1:0 < H.size)
    (hO:∀ H',Keep H H' → S.O 6 [] H'):∃ H',Runs Tryd.prog S (.fn 4) [.int .i64 n,vl,vw,.int .i64 am] H (.bool true) H':=by
  suffices h:WCall Tryd.prog S (.fn 4) [.int .i64 n,vl,vw,.int .i64 am] H (fun v H' => v = .bool true) by
    obtain ⟨_,H',hr,rfl⟩:=h; exact ⟨H',hr⟩
  have al:∀ (H':Heap),Keep H H' → ∀ (K:Value → Heap → Prop) (b:Blk K),sxCallB Tryd.prog S (.fn 6) [] H' K b = K (.bool true) H':=fun H' hk K b => known_bx (hO H' hk)
  have al0:=al H (Keep.refl _);have f0:=(few_runs hS l vl r o H hl).bx;obtain ⟨u1,H1,R1,p,e,rfl,k1,he1,he2,he3⟩:=Change_runs hS n l w am vl vw r o r' o' H hL hl hw;have al1:=al H1 k1;have f1:=R1.bx;obtain ⟨a,cap,rfl⟩:=hl.v0;obtain ⟨a',cap',rfl⟩:=hw.v0;refine call_of Tryd.func4 rfl (Nat.le_of_ble_eq_true rfl) (hS.no rfl _ _) ?_
  rw [Tryd.ntmps4,Tryd.results4];refine cutC (fun B0 hB0 => ?_)
  simp only [↓Zabo,↓Zabq,↓Zacj,↓Zaci,↓Zaco,↓Zaak,↓bxPut,↓Zabj,↓Zaax,Nat.reduceLT];have hB0':B0 = _:=hB0;subst hB0';clear hB0;refine cutC (fun B1 hB1 => ?_)
  refine shieldG fun P hP => ?_
  by_cases h60:(l.length:Int) ≤ 60
  case neg =>
    rw [decide_eq_false h60] at f0;subst hP;clear R1 hl hw al he1 he2 he3 k1
    repeat' simp only [↓Zabr,↓Zabo,↓Zabq,↓Zaah,↓Zabp,↓Zacj,↓Zaci,↓Zaco,↓Zaav,↓Zaar,↓Zaak,↓Zaas,↓Zaal,↓bxOp_un,↓Zaau,↓Zaap,↓bxPut,↓Zabj,↓Zabk,↓Zabh,↓Zacm,↓Zacn,↓Zacp,↓Zaaz,↓Zaax,↓Zaay,↓dstAt,↓Zaba,Zack,una_nf,Zaac,Zabs,sxGuardB_ft,Zach,Zabe,List.map,List.nil_append,List.append_nil,↓reduceIte,Nat.reduceEqDiff,Nat.reduceLT, *,argF,List.getD_cons_zero,List.getD_cons_succ]
  rw [decide_eq_true h60] at f0
  by_cases h40:40 < (w.length:Int)
  · subst hP;clear R1 hl hw al he1 he2 he3 k1
    repeat' simp only [↓Zabr,↓Zabo,↓Zabq,↓Zaah,↓Zabp,↓Zacj,↓Zaci,↓Zaco,↓Zaav,↓Zaar,↓Zaak,↓Zaas,↓Zaal,↓bxOp_un,↓Zaau,↓Zaap,↓bxPut,↓Zabj,↓Zabk,↓Zabh,↓Zacm,↓Zacn,↓Zacp,↓Zaaz,↓Zaax,↓Zaay,↓dstAt,↓Zaba,Zack,Zaad,Zabb,una_nt,Zaab,Zabs,Zacd,Zach,Zabe,List.map,List.nil_append,List.append_nil,↓reduceIte,Nat.reduceEqDiff,Nat.reduceLT,dec_T, *,argF,List.getD_cons_zero,List.getD_cons_succ,lenI]
  subst hP
  repeat' simp only [↓Zabr,↓Zabo,↓Zabq,↓Zaah,↓Zabp,↓Zacj,↓Zaci,↓Zaco,↓Zaav,↓Zaar,↓Zaak,↓Zaas,↓Zaal,↓bxOp_un,↓Zaau,↓Zaap,↓bxPut,↓Zabj,↓Zabk,↓Zabh,↓Zacm,↓Zacn,↓Zacp,↓Zaaz,↓Zaax,↓Zaay,↓dstAt,↓Zaba,Zack,Zaad,Zabb,una_nt,Zaab,Zabs,Zacd,Zacg,Zabe,List.map,List.nil_append,List.append_nil,↓reduceIte,Nat.reduceEqDiff,Nat.reduceLT,dec_F, *,argF,List.getD_cons_zero,List.getD_cons_succ,lenI]
  have hB1':B1 = _:=hB1;subst hB1';clear hB1;refine cutC (fun B2 hB2 => ?_)
  repeat' simp only [↓Zabo,↓Zabq,↓Zacj,↓Zaci,↓Zaco,↓Zaar,↓Zaak,↓bxOp_extract,↓Zaau,↓bxPut,↓Zabj,↓Zacp,↓Zaaz,↓Zaay,Zack,Zabs,List.map,List.nil_append,List.append_nil,↓reduceIte,Nat.reduceEqDiff,Nat.reduceLT, *,argF,List.getD_cons_zero,List.getD_cons_succ,xt20,xt21]
  have hB2':B2 = _:=hB2;subst hB2';clear hB2;refine cutC (fun B3 hB3 => ?_)
  refine shieldG fun P hP => ?_
  by_cases hez:e = 0
  case neg =>
    have hp0:=he1 hez;subst hp0;subst hP;clear R1 hl hw al he1 he2 he3 k1
    repeat' simp only [↓Zabr,↓Zabo,↓Zabq,↓Zaah,↓Zabp,↓Zacj,↓Zaci,↓Zaco,↓Zaav,↓Zaar,↓Zaak,↓Zaas,↓Zaal,↓Zaau,↓bxPut,↓Zabj,↓Zabk,↓Zabh,↓Zacm,↓Zacn,↓Zacp,↓Zaaz,↓Zaax,↓Zaay,↓dstAt,↓Zaba,Zack,Zaad,Zabb,Zaac,Zabs,sxGuardB_tt,Zach,Zabe,List.map_nil,List.nil_append,List.append_nil,↓reduceIte,Nat.reduceEqDiff,Nat.reduceLT,dec_T,not_false_eq_true, *,argF]
  subst hez;have harg:=he2 rfl;have hch0:=he3 harg;clear he1 he2 he3 R1 al0 al1;obtain ⟨hck,hw20,hwk,ham⟩:=harg;have hrng:=fun k (hk:k < w.length) => wk_off hck hwk hk
  have hpr:=pr_rng (l:=l) (w:=w) (fun k hk => (hrng k hk).2.2)
  have l1:=k1.low hL;obtain ⟨H2,v2,k2,g2,q2,R2⟩:=Frac_all hS 1 1 H1 (k1.grp hgr) l1 (by decide) (by decide) (by decide) (by decide)
  have f2:=R2.bx;have k02:=k1.trans k2;obtain ⟨H4,e4,k4,z4,-,-⟩:=box1 H2 [.bool false,.slice none 0 0,.bool false,.slice none 0 0] 37;have ow4:Own H4 H2.size 37 [.bool false,.slice none 0 0,.bool false,.slice none 0 0]:=e4 ▸ Own.new H2 _ _;obtain ⟨H5,p5,s5,ow5,qo5,-,kp5⟩:=storeQ ow4 QShape.empty (q2.keep k4);have q5:=qo5 _ _ _ (q2.keep k4);have k5:=kp5 H2 k4 (Nat.le_refl _);have q5':QV H5 v2 (prN l w 0) (prD l w 0):=q5;clear R2 ow4 qo5 kp5 q5;subst hP
  repeat' simp only [↓Zabr,↓Zabo,↓Zabq,↓Zaah,↓Zabp,↓Zacj,↓Zaci,↓Zaco,↓Zaav,↓Zaar,↓Zaak,↓Zaas,↓Zaal,↓Zaau,↓bxPut,↓Zabj,↓Zabk,↓Zabh,↓Zacm,↓Zacn,↓Zacp,↓Zaaz,↓Zaax,↓Zaay,↓dstAt,↓Zaba,Zack,Zaad,Zabb,Zabs,Zacg,Zabe,List.nil_append,↓reduceIte,Nat.reduceLT,dec_F,not_true_eq_false, *,argF]
  have hB3':B3 = _:=hB3;subst hB3';clear hB3;refine cutC (fun B4 hB4 => ?_)
  repeat' simp only [↓Zabo,↓Zabq,↓Zacj,↓Zaci,↓Zaco,↓Zaaj,↓Zaat,↓Zaau,↓Zacl,↓bxPut,↓Zabj,↓Zacp,↓Zaaz,↓Zaax,↓Zaay,Zack,Zabs,List.map,List.nil_append,List.append_nil,↓reduceIte,Nat.reduceEqDiff,Nat.reduceLT, *,alQ]
  have hB4':B4 = _:=hB4;subst hB4';clear hB4;refine cutC (fun B5 hB5 => ?_)
  repeat' simp only [↓Zabo,↓Zabq,↓Zacj,↓Zaci,↓Zaco,↓Zaar,↓Zaak,↓bxPut,↓Zabj,↓Zacp,↓Zaaz,↓reduceIte,Nat.reduceEqDiff,Nat.reduceLT, *,argF,List.getD_cons_zero,List.getD_cons_succ]
  have hB5':B5 = _:=hB5;subst hB5';clear hB5;refine cutC (fun B6 hB6 => ?_)
  repeat' simp only [↓Zabo,↓Zabq,↓bxC_loop,↓Zabl,↓Zacj,↓Zaci,↓Zaco,↓Zaak,↓bxPut,↓Zabj,↓Zaax,Nat.reduceLT, *]
  clear e4 p5 f0 f1 f2
  refine sxL_of (fun m ρ X => ∃ (k:Nat) (c:Int) (v:Value),m = w.length - k ∧ k ≤ w.length ∧ Keep H2 X ∧ Own X H2.size 37 v.cells.toList ∧ QV X v (prN l w k) (prD l w k) ∧ (0 ≤ c ∧ c ≤ 1099511627776) ∧ c * prD l w k ≤ am * prN l w k ∧ chgL l (w.drop k) c = (p,0) ∧
      ρ 0 = .int .i64 n ∧ ρ 1 = .slice a l.length cap ∧ ρ 2 = .slice a' w.length cap' ∧ ρ 3 = .int .i64 am ∧ ρ 9 = .int .i64 p ∧ ρ 11 = .pointer (some ⟨H2.size,0,none⟩) ∧ ρ 12 = .int .i64 c ∧ ρ 13 = .int .i64 (k:Int))
    ⟨0,am,v2,rfl,Nat.zero_le _,k5,ow5,q5',ham,Int.le_refl _,hch0,rfl,rfl,rfl,rfl,rfl,rfl,rfl,rfl⟩ ?_
  clear k5 ow5 q5' s5 hch0 q2;intro m ρ X hinv;refine shieldG fun P hP => ?_
  obtain ⟨k,c,v,rfl,hk,kX,owX,qX,hc,hcw,hch,e0,e1,e2,e3,e9,e11,e12,e13⟩:=hinv;have kHX:=k02.trans kX;have gX:=kHX.grp hgr;have lX:=kHX.low hL;have hml:=hw.ml;have hp:=hpr k hk;have hp50:=pow50b (show k ≤ 20 by omega)
  by_cases hkw:k < w.length
  · have hlt:(k:Int) < (w.length:Int):=by omega
    have hwi:=wrap_succ hkw hml;have ixk:=SlI_ix' (hw.keep kHX) hkw;obtain ⟨rdk,hzk⟩:=(hw.keep kHX).rdI hkw;obtain ⟨j1,j2,-,-⟩:=wk_at (hl.keep kHX) (hwk.1 k hkw);obtain ⟨X1,X2,p1,p2,k2',z2,ow2⟩:=varO X (offW l w k);have kX2:=kX.trans k2';have kHX2:=k02.trans kX2;obtain ⟨-,-,-,t2,t3⟩:=off_reads ow2;have alX:=alO X;rw [p1] at alX;have l2:=k2'.low lX;have gX2:=kHX2.grp hgr;have owX2:=owX.keep k2';have qX2:=qX.keep k2';have ldX:=own_ldQ owX2 qX2;obtain ⟨-,-,hr1⟩:=hrng k hkw;obtain ⟨va,Xa,X3,ka,l3,fa,da,qa⟩:=drawnQ l2 (Frac_all hS (offW l w k).n (offW l w k).d (X2.relow X2.size) ((Keep.relowS X2).grp gX2) (Nat.le_refl _) (by omega) (by omega) (by omega) (by omega))
    have g3:=ka.grp gX2;obtain ⟨vb,Xb,X4,kb,l4,fb,db,qb⟩:=drawnQ l3 (Mul_all hS v va (prN l w k) (prD l w k) (offW l w k).n (offW l w k).d (X3.relow X3.size) ((Keep.relowS X3).grp g3) (Nat.le_refl _) ((qX2.keep ka).addr) qa.addr (by omega) (by omega) (ltB (by omega)) (ltB' (by omega)) (ltB (by omega)) (ltB' (by omega)))
    have qb:QV X4 vb (prN l w (k + 1)) (prD l w (k + 1)):=qb;have kab:=ka.trans kb;obtain ⟨Hz,X5,pz,qz,kz,sz,lz,owz,oz,-⟩:=storeQD (kX2.trans kab) (Nat.le_refl _) l4 (owX2.keep kab) qX2.shape.2 qb;have qz5:=oz _ _ _ qb;have kHz:=k02.trans kz;have ixk5:=SlI_ix' (hw.keep kHz) hkw;have rdk5:=((hw.keep kHz).rdI hkw).1;obtain ⟨X6,e6,k6,sl6⟩:=one_sl (H:=X5) hzk;have bs:=bsI X5 (w.getD k 0);rw [e6] at bs;have kH6:=kHz.trans k6;obtain ⟨u7,X7,R7,p7,e7,rfl,k7,-,-,hc7⟩:=Change_runs hS n l [w.getD k 0] c _ _ r o X5.size 0 X6 (kH6.low hL) (hl.keep kH6) sl6;have f7:=R7.bx;have hs:=step_le hc (n:=(offW l w k).n) (d:=(offW l w k).d) (by omega) (by omega)
    have hst:stepA l (w.getD k 0) c = c * (offW l w k).n / (offW l w k).d:=rfl
    have hwk1:WkOk l [w.getD k 0]:=⟨fun i hi => by
      have hi:i < 1:=hi;have:i = 0:=by omega
      subst this; exact hwk.1 k hkw,fun i hi => by have hi:i + 1 < 1:=hi; omega⟩
    have hc7':=hc7 ⟨hck,(by decide:1 ≤ 20),hwk1,hc⟩
    rw [chgL_step hkw c] at hch;have hun:chgL l [w.getD k 0] c = if 1099511627776 < stepA l (w.getD k 0) c then (0,4) else (stepA l (w.getD k 0) c,0):=rfl
    rw [hun] at hc7'
    by_cases hov:1099511627776 < stepA l (w.getD k 0) c
    · rw [if_pos hov] at hch;cases hch
    rw [if_neg hov] at hch hc7';rw [hst] at hch hc7' hov;have hcw2:c * (offW l w k).n / (offW l w k).d * prD l w (k + 1) ≤ am * prN l w (k + 1):=worth_step hcw hs.2.2 (by omega) (by omega)
    obtain ⟨q,hqE⟩:∃ q,c * (offW l w k).n / (offW l w k).d = q:=⟨_,rfl⟩;rw [hqE] at hs hch hc7' hov hcw2;obtain ⟨rfl,rfl⟩:p7 = q ∧ e7 = 0:=by cases hc7'; exact ⟨rfl,rfl⟩
    have hs2:0 ≤ p7 ∧ p7 ≤ 1099511627776:=by omega
    have kz7:=(kz.trans k6).trans k7;have ow7:=(owz.keep k6).keep k7;have qz7:=(qz5.keep k6).keep k7;generalize hxo:offW l w k = x at j2 p2 t2 t3 fa;clear hl hw kHX kX hkw hk owX qX hp hp50 hpr hrng hwk hck gX ka kb kab qa qb oz g3 hr1 hxo R7 k7 kz k6 sl6 e6 owz qz5 kHz kH6 hs hst hwk1 hc7 hc7' hun hov hqE hcw hc kX2 kHX2 k2' ow2 owX2 qX2 gX2 p1 sz z2 hzk k1 k02 z4 l1 hml;subst hP
    repeat' (first | simp only [↓Zabr,↓Zabm,↓Zabo,↓Zabq,↓Zaah,↓Zabl,↓Zabn,↓Zabp,↓Zacj,↓Zaci,↓Zacc,↓Zaai,↓Zabz,↓Zabx,↓sxD_same,↓Zaco,↓Zaar,↓Zaak,↓Zaaj,↓Zaam,↓Zaaq,↓Zaat,↓Zaal,↓Zaan,↓Zaao,↓bxOp_extract,↓Zaau,↓Zaap,↓Zacl,↓bxPut,↓Zabj,↓Zabi,↓Zabk,↓Zaaf,↓Zaag,↓Zaae,↓Zabd,↓Zabc,↓loopQ_ret,↓Zabh,↓Zacm,↓Zacn,↓Zacp,↓Zaaz,↓Zaax,↓Zaay,Zack,Zaad,Zabb,Zabs,Zach,Zacg,Zabe,List.map,List.nil_append,List.append_nil,↓reduceIte,Nat.reduceEqDiff,Nat.reduceLT,dec_T,dec_F,true_and,Zaaa,one1,Option.bind_some,not_true_eq_false,Option.map_some, *,lenI,ldI,ldO,faO2,faO3,xt20,xt21,Nat.zero_add] | (with_reducible first | refine Zabu (by assumption) (by decide +kernel) ?_ | refine Zabt (by decide +kernel) ?_ | refine Zacb (by decide +kernel) ?_ | refine Zabw ?_))
    exact ⟨w.length - (k + 1),by omega,k + 1,p7,vb,rfl,by omega,ow7,qz7,hs2,hcw2,hch,rfl,rfl⟩
  have hlt:¬ (k:Int) < (w.length:Int):=by omega
  have hke:k = w.length:=by omega
  rw [hke,List.drop_length] at hch;clear hke;have hcp:c = p:=congrArg Prod.fst hch;subst hcp;obtain ⟨va,Xa,X1,ka,l1',fa,da,qa⟩:=drawnQ lX (Frac_all hS c 1 (X.relow X.size) ((Keep.relowS X).grp gX) (Nat.le_refl _) hc.1 (by decide) (by omega) (by decide))
  have g1:=ka.grp gX;have owX1:=owX.keep ka;have ldX1:=own_ldQ owX1 (qX.keep ka);obtain ⟨vb,Xb,X2,kb,l2',fb,db,qb⟩:=drawnQ l1' (Frac_all hS am 1 (X1.relow X1.size) ((Keep.relowS X1).grp g1) (Nat.le_refl _) ham.1 (by decide) (by omega) (by decide))
  have g2':=kb.grp g1;obtain ⟨vc,Xc,X3,kc,l3',fc,dc,qc⟩:=drawnQ l2' (Mul_all hS v vb (prN l w k) (prD l w k) am 1 (X2.relow X2.size) ((Keep.relowS X2).grp g2') (Nat.le_refl _) ((qX.keep (ka.trans kb)).addr) qb.addr (by omega) (by decide) (ltB (by omega)) (ltB' (by omega)) (ltB (by omega)) (ltB' (by decide)))
  have g3:=kc.grp g2';obtain ⟨Xd,X4,kd,l4',fd,dd⟩:=drawn l3' (Cmp_all hS va vc c 1 (prN l w k * am) (prD l w k * 1) (X3.relow X3.size) ((Keep.relowS X3).grp g3) (Nat.le_refl _) ((qa.keep (kb.trans kc)).addr) qc.addr (by decide) (by omega))
  have hsg:¬ 0 < sgn3 (c * (prD l w k * 1)) (prN l w k * am * 1):=by
    rw [sgn3_more,Int.mul_one,Int.mul_one,Int.mul_comm (prN l w k) am]; omega
  obtain ⟨sg,hsgE⟩:∃ sg,sgn3 (c * (prD l w k * 1)) (prN l w k * am * 1) = sg:=⟨_,rfl⟩;rw [hsgE] at fd hsg;clear hsgE;have kad:=((ka.trans kb).trans kc).trans kd;have kX4:=kHX.trans kad;have owX4:=owX.keep kad;have qX4:=qX.keep kad;have hc0:¬ c < 0:=by omega
  subst hP
  repeat' (first | simp only [↓Zabr,↓Zabm,↓Zabo,↓Zabq,↓Zaah,↓Zabl,↓Zabn,↓Zabp,↓Zacj,↓Zaci,↓Zacc,↓Zaai,↓Zabz,↓Zabx,↓Zaco,↓Zaar,↓Zaak,↓Zaaj,↓Zaam,↓Zaaq,↓Zaat,↓Zaal,↓Zaan,↓Zaao,↓bxOp_extract,↓Zaau,↓Zaap,↓Zacl,↓bxPut,↓Zabj,↓Zabi,↓Zabk,↓Zaaf,↓Zaag,↓Zaae,↓Zabd,↓Zabc,↓loopQ_ret,↓Zabh,↓Zacm,↓Zacn,↓Zacp,↓Zaaz,↓Zaax,↓Zaay,Zack,Zaad,Zabb,Zabs,Zacg,Zabe,List.nil_append,↓reduceIte,Nat.reduceEqDiff,Nat.reduceLT,dec_F, *,lenI] | (with_reducible first | refine Zabu (by assumption) (by decide +kernel) ?_ | refine Zabt (by decide +kernel) ?_ | refine Zacb (by decide +kernel) ?_ | refine Zabw ?_))
  have hB6':B6 = _:=hB6;subst hB6';clear hB6;refine cutC (fun B7 hB7 => ?_)
  repeat' (first | simp only [↓Zabr,↓Zabm,↓Zabo,↓Zabq,↓Zaah,↓Zabp,↓Zacj,↓Zaci,↓Zacc,↓Zaai,↓Zaca,↓sxDL_pick,↓Zabz,↓Zabv,↓sxD_same,↓Zaco,↓Zaav,↓Zaar,↓Zaak,↓Zaas,↓Zaaq,↓Zaal,↓Zaau,↓bxPut,↓Zabj,↓Zabk,↓Zabh,↓Zacm,↓Zacn,↓Zacp,↓Zaaz,↓Zaax,↓Zaay,↓dstAt,↓Zaba,Zack,Zaad,Zabb,Zaab,Zabs,Zacd,Zacg,Zabe,List.map,List.nil_append,List.append_nil,↓reduceIte,Nat.reduceEqDiff,Nat.reduceLT,dec_F,Zaaa,not_true_eq_false, *] | (with_reducible first | refine Zabu (by assumption) (by decide +kernel) ?_ | refine Zabt (by decide +kernel) ?_ | refine Zacb (by decide +kernel) ?_ | refine Zabw ?_))
  have hB7':B7 = _:=hB7;subst hB7';clear hB7;refine cutC (fun B8 hB8 => ?_)
  refine shieldG fun P hP => ?_
  clear fa fb fc fd da db dc dd hsg;obtain ⟨u5,X5,R5,bb,e5,rfl,k5,-,hg5⟩:=Gains_runs hS n l w _ _ r o r' o' X4 (kX4.grp hgr) (kX4.low hL) (hl.keep kX4) (hw.keep kX4) (kX4.read h1 h0) (Nat.lt_of_lt_of_le h1 kX4.size);obtain ⟨rfl,hbb⟩:=hg5 hck;have f5:=R5.bx;have kX5:=kX4.trans k5;have l5:=kX5.low hL;have g5:=kX5.grp hgr;have owX5:=owX4.keep k5;have qX5:=qX4.keep k5;have ld5:=own_ldQ owX5 qX5;have al5:=al X5 kX5;subst hP
  repeat' simp only [↓Zabo,↓Zabq,↓Zacj,↓Zaci,↓Zaco,↓Zaar,↓Zaak,↓bxOp_extract,↓Zaau,↓bxPut,↓Zabj,↓Zacp,↓Zaaz,↓Zaay,Zack,Zabs,List.map,List.nil_append,List.append_nil,↓reduceIte,Nat.reduceEqDiff,Nat.reduceLT, *,xt20,xt21]
  have hB8':B8 = _:=hB8;subst hB8';clear hB8;refine cutC (fun B9 hB9 => ?_)
  refine shieldG fun P hP => ?_
  clear f5 R5;obtain ⟨ve,Xe,X6,ke,l6,fe,de,qe⟩:=drawnQ l5 (Frac_all hS 1 1 (X5.relow X5.size) ((Keep.relowS X5).grp g5) (Nat.le_refl _) (by decide) (by decide) (by decide) (by decide))
  have g6:=ke.grp g5;obtain ⟨Xf,X7,kf,l7,ff,df⟩:=drawn l6 (Cmp_all hS v ve (prN l w k) (prD l w k) 1 1 (X6.relow X6.size) ((Keep.relowS X6).grp g6) (Nat.le_refl _) ((qX5.keep ke).addr) qe.addr (by omega) (by decide))
  have al7:=al X7 ((kX5.trans ke).trans kf);rw [Int.mul_one,Int.one_mul] at ff;have hsw:prN l w k ≤ prD l w k → c ≤ am:=fun h => worth_end hcw h (by omega) ham.1
  have hsg2:=sgn3_more (x:=prN l w k) (y:=prD l w k);obtain ⟨sg2,hsE2⟩:∃ sg2,sgn3 (prN l w k) (prD l w k) = sg2:=⟨_,rfl⟩;rw [hsE2] at ff hsg2;have hfin:sg2 ≤ 0 → ¬ am < c:=fun h => by
    have h1:¬ prD l w k < prN l w k:=fun h2 => by have:=hsg2.2 h2; omega
    have:=hsw (by omega)
    omega
  have hl5:=hl.keep kX5;have hw5:=hw.keep kX5;have hmx:Go.maxLen = 9223372036854775807:=rfl;clear hg5 hbb al kad kX4 owX4 qX4 kX5 owX5 qX5 kHX kX owX qX hp50 hpr hrng hck gX ka kb kc kd qa qb qc ke kf qe g1 g2' g3 g5 g6 k5 k1 k02 k2 g2 z4 hl hw hsE2 hsw hsg2 hcw hch ham hc hc0;have hbc:bb = true ∨ bb = false:=by cases bb <;> simp
  rcases hbc with rfl | rfl
  · subst hP;clear hfin fe ff de df al7 hwk hl5 hw5 hkw hk hp
    repeat' (first | simp only [↓Zabr,↓Zabm,↓Zabo,↓Zabq,↓Zaah,↓Zabp,↓Zacj,↓Zaci,↓Zacc,↓Zaai,↓Zaca,↓sxDL_pick,↓Zabz,↓Zabv,↓sxDL_unOp,↓Zabx,↓Zaby,↓sxD_same,↓Zaco,↓Zaav,↓Zaar,↓Zaak,↓Zaas,↓Zaaq,↓Zaal,↓bxOp_un,↓Zaan,↓Zaao,↓Zaau,↓Zaap,↓bxPut,↓Zabj,↓Zabk,↓Zabh,↓Zacm,↓Zacn,↓Zacp,↓Zaaz,↓Zaax,↓Zaay,↓dstAt,↓Zaba,Zack,Zaad,Zabb,una_nt,Zaac,Zaab,Zabs,sxGuardB_tt,sxGuardB_tf,Zacg,Zabe,List.nil_append,↓reduceIte,Nat.reduceEqDiff,Nat.reduceLT,dec_T, *] | (with_reducible first | refine Zabu (by assumption) (by decide +kernel) ?_ | refine Zabt (by decide +kernel) ?_ | refine Zacb (by decide +kernel) ?_ | refine Zabw ?_))
    have hB9':B9 = _:=hB9;subst hB9';clear hB9
    repeat' simp only [↓Zabo,↓Zabq,↓Zabp,↓Zacj,↓Zaci,↓Zaco,↓Zaak,↓Zaau,↓bxPut,↓Zabj,↓Zabh,↓Zacm,↓Zacn,↓Zacp,↓Zaaz,↓Zaay,Zabs,Zabe,List.map_nil,List.append_nil,↓reduceIte,Nat.reduceLT, *]
  by_cases hw0:w.length = 0
  · have hz:¬ 0 < (w.length:Int):=by omega
    subst hP;clear hfin fe ff de df al7 hwk hl5 hw5 hkw hk hp hw0
    repeat' (first | simp only [↓Zabr,↓Zabm,↓Zabo,↓Zabq,↓Zaah,↓Zabp,↓Zacj,↓Zaci,↓Zacc,↓Zaai,↓Zaca,↓sxDL_pick,↓Zabz,↓Zabv,↓sxDL_unOp,↓Zabx,↓Zaby,↓sxD_same,↓Zaco,↓Zaav,↓Zaar,↓Zaak,↓Zaas,↓Zaaq,↓Zaal,↓bxOp_un,↓Zaan,↓Zaao,↓Zaau,↓Zaap,↓bxPut,↓Zabj,↓Zabk,↓Zabh,↓Zacm,↓Zacn,↓Zacp,↓Zaaz,↓Zaax,↓Zaay,↓dstAt,↓Zaba,Zack,Zaad,Zabb,una_nf,Zaac,Zaab,Zabs,sxGuardB_tt,sxGuardB_tf,Zacg,Zabe,List.nil_append,↓reduceIte,Nat.reduceEqDiff,Nat.reduceLT,dec_T,dec_F, *,lenI] | (with_reducible first | refine Zabu (by assumption) (by decide +kernel) ?_ | refine Zabt (by decide +kernel) ?_ | refine Zacb (by decide +kernel) ?_ | refine Zabw ?_))
    have hB9':B9 = _:=hB9;subst hB9';clear hB9
    repeat' simp only [↓Zabo,↓Zabq,↓Zabp,↓Zacj,↓Zaci,↓Zaco,↓Zaak,↓Zaau,↓bxPut,↓Zabj,↓Zabh,↓Zacm,↓Zacn,↓Zacp,↓Zaaz,↓Zaay,Zabs,Zabe,List.map_nil,List.append_nil,↓reduceIte,Nat.reduceLT, *]
  have hz:0 < (w.length:Int):=by omega
  have hwp:0 < w.length:=by omega
  obtain ⟨p,hpE⟩:∃ p,w.length = p + 1:=⟨w.length - 1,by omega⟩
  have hpl:p < w.length:=by omega
  have hwl:IntKind.i64.wrap ((w.length:Int) - 1) = (p:Int):=by
    rw [IntWalk.i64_in _ (by omega)]; omega
  obtain ⟨j1,j2,j3,j4⟩:=wk_at hl5 (hwk.1 0 hwp);obtain ⟨i1,i2,i3,i4⟩:=wk_at hl5 (hwk.1 p hpl);have ix0:aIndexAt Tryd.prog 23 (.slice a' w.length cap') (.int .i64 0) = some (.pointer (some ⟨r',o',none⟩)):=SlI_ix' hw5 hwp;have rd0:X5.read r' o' 1 = some [.int .i64 (w.getD 0 0)]:=(hw5.rdI hwp).1;have ixp:=SlI_ix' hw5 hpl;have rdp:=(hw5.rdI hpl).1;clear j2 j4 i2 i3 hl5 hw5;obtain ⟨y1,hy1⟩:∃ y,(offW l w 0).f = y:=⟨_,rfl⟩;obtain ⟨y2,hy2⟩:∃ y,(offW l w p).t = y:=⟨_,rfl⟩;rw [hy1] at j3;rw [hy2] at i4;clear hwk hkw hk hp hw0 hwp hpl hpE hy1 hy2
  by_cases hy:y1 = y2
  case neg =>
    subst hP;clear hfin fe ff de df al7
    repeat' (first | simp only [↓Zabr,↓Zabm,↓Zabo,↓Zabq,↓Zaah,↓Zabp,↓Zacj,↓Zaci,↓Zacc,↓Zaai,↓Zaca,↓sxDL_pick,↓Zabz,↓Zabv,↓sxDL_unOp,↓Zabx,↓Zaby,↓sxD_same,↓Zaco,↓Zaav,↓Zaar,↓Zaak,↓Zaas,↓Zaaq,↓Zaal,↓bxOp_un,↓Zaan,↓Zaao,↓Zaau,↓Zaap,↓bxPut,↓Zabj,↓Zabk,↓Zabh,↓Zacm,↓Zacn,↓Zacp,↓Zaaz,↓Zaax,↓Zaay,↓dstAt,↓Zaba,Zack,Zaad,Zabb,una_nf,Zaac,Zaab,Zabs,sxGuardB_tt,sxGuardB_tf,Zacg,Zabe,List.nil_append,↓reduceIte,Nat.reduceEqDiff,Nat.reduceLT,dec_T,dec_F,Zaaa,Nat.add_zero,one1,Option.bind_some, *,lenI,ldI,faO0,faO1,Nat.add_zero] | (with_reducible first | refine Zabu (by assumption) (by decide +kernel) ?_ | refine Zabt (by decide +kernel) ?_ | refine Zacb (by decide +kernel) ?_ | refine Zabw ?_))
    have hB9':B9 = _:=hB9;subst hB9';clear hB9
    repeat' simp only [↓Zabo,↓Zabq,↓Zabp,↓Zacj,↓Zaci,↓Zaco,↓Zaak,↓Zaau,↓bxPut,↓Zabj,↓Zabh,↓Zacm,↓Zacn,↓Zacp,↓Zaaz,↓Zaay,Zabs,Zabe,List.map_nil,List.append_nil,↓reduceIte,Nat.reduceLT, *]
  subst hy
  by_cases hs0:sg2 ≤ 0
  · have hfi:=hfin hs0;clear hfin;subst hP
    repeat' (first | simp only [↓Zabr,↓Zabm,↓Zabo,↓Zabq,↓Zaah,↓Zabp,↓Zacj,↓Zaci,↓Zacc,↓Zaai,↓Zaca,↓sxDL_pick,↓Zabz,↓Zabv,↓sxDL_unOp,↓Zabx,↓Zaby,↓sxD_same,↓Zaco,↓Zaav,↓Zaar,↓Zaak,↓Zaas,↓Zaaq,↓Zaal,↓bxOp_un,↓Zaan,↓Zaao,↓Zaau,↓Zaap,↓bxPut,↓Zabj,↓Zabk,↓Zabh,↓Zacm,↓Zacn,↓Zacp,↓Zaaz,↓Zaax,↓Zaay,↓dstAt,↓Zaba,Zack,Zaad,Zabb,una_nf,Zaac,Zabs,sxGuardB_tt,Zacg,Zabe,List.map,List.nil_append,List.append_nil,↓reduceIte,Nat.reduceEqDiff,Nat.reduceLT,dec_T,dec_F,Zaaa,Nat.add_zero,one1,Option.bind_some, *,lenI,ldI,faO0,faO1,Nat.add_zero] | (with_reducible first | refine Zabu (by assumption) (by decide +kernel) ?_ | refine Zabt (by decide +kernel) ?_ | refine Zacb (by decide +kernel) ?_ | refine Zabw ?_))
    have hB9':B9 = _:=hB9;subst hB9';clear hB9
    repeat' simp only [↓Zabo,↓Zabq,↓Zabp,↓Zacj,↓Zaci,↓Zaco,↓Zaak,↓Zaau,↓bxPut,↓Zabj,↓Zabh,↓Zacm,↓Zacn,↓Zacp,↓Zaaz,↓Zaay,Zabs,Zabe,List.map_nil,List.append_nil,↓reduceIte,Nat.reduceLT, *]
  · clear hfin;subst hP
    repeat' (first | simp only [↓Zabr,↓Zabm,↓Zabo,↓Zabq,↓Zaah,↓Zabp,↓Zacj,↓Zaci,↓Zacc,↓Zaai,↓Zaca,↓sxDL_pick,↓Zabz,↓Zabv,↓sxDL_unOp,↓Zabx,↓Zaby,↓sxD_same,↓Zaco,↓Zaav,↓Zaar,↓Zaak,↓Zaas,↓Zaaq,↓Zaal,↓bxOp_un,↓Zaan,↓Zaao,↓Zaau,↓Zaap,↓bxPut,↓Zabj,↓Zabk,↓Zabh,↓Zacm,↓Zacn,↓Zacp,↓Zaaz,↓Zaax,↓Zaay,↓dstAt,↓Zaba,Zack,Zaad,Zabb,una_nf,Zaac,Zaab,Zabs,sxGuardB_tt,sxGuardB_tf,Zacg,Zabe,List.map,List.nil_append,List.append_nil,↓reduceIte,Nat.reduceEqDiff,Nat.reduceLT,dec_T,dec_F,Zaaa,Nat.add_zero,one1,Option.bind_some, *,lenI,ldI,faO0,faO1,Nat.add_zero] | (with_reducible first | refine Zabu (by assumption) (by decide +kernel) ?_ | refine Zabt (by decide +kernel) ?_ | refine Zacb (by decide +kernel) ?_ | refine Zabw ?_))
    have hB9':B9 = _:=hB9;subst hB9';clear hB9
    repeat' simp only [↓Zabo,↓Zabq,↓Zabp,↓Zacj,↓Zaci,↓Zaco,↓Zaak,↓Zaau,↓bxPut,↓Zabj,↓Zabh,↓Zacm,↓Zacn,↓Zacp,↓Zaaz,↓Zaay,Zabs,Zabe,List.map_nil,List.append_nil,↓reduceIte,Nat.reduceLT, *]
end Go.Proofs.YtcmaipijkjillaaDoor
