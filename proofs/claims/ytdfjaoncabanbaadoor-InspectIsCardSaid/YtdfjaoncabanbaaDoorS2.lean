/- Is, by the program. -/
import Derived.Test.YtdfjaoncabanbaaDoorS1
set_option linter.unusedVariables false
set_option linter.unusedSimpArgs false
set_option linter.unusedSectionVars false

namespace Go.Proofs.YtdfjaoncabanbaaDoor
open Go Go.AM
set_option maxRecDepth 10000

def rowS (g:List (List Int)) (y:List Int) (i:Nat):Int:=dotL (g.getD i []) y y.length
def SadOk (g:List (List Int)) (p q:Int) (x:List Int) (dx:Int) (y:List Int) (dy:Int):Prop:=
  ValOk p q ∧ Mix x dx (g.length:Int) 2199023255552 ∧ Mix y dy ((g.getD 0 default).length:Int) 2199023255552 ∧ (∀ j,j < (g.getD 0 default).length → p * dx ≤ colS g x j * q) ∧ (∀ i,i < g.length → rowS g y i * q ≤ p * dy)
def PostIs (g:List (List Int)) (p q:Int) (x:List Int) (dx:Int) (y:List Int) (dy:Int) (H:Heap) (u:Value) (H':Heap):Prop:=
  ∃ bb e,u = .tuple ⟨[.bool bb,.int .i64 e]⟩ ∧ Keep H H' ∧ (¬ IsG g → bb = false ∧ e = 2) ∧ (IsG g → e = 0 ∧ (bb = true ↔ SadOk g p q x dx y dy))
theorem row_rng {g:List (List Int)} {y:List Int} {dy:Int} (hG:IsG g) (h:Mix y dy ((g.getD 0 default).length:Int) 2199023255552):y.length = (g.getD 0 default).length ∧ (1 ≤ dy ∧ dy ≤ 2199023255552) ∧ (∀ i,i < g.length → (g.getD i []).length = y.length) ∧
    (∀ i j,i < g.length → j < y.length → -219902325555200 ≤ (g.getD i []).getD j 0 * y.getD j 0 ∧ (g.getD i []).getD j 0 * y.getD j 0 ≤ 219902325555200) ∧ (∀ i,i < g.length → -2199023255552000 ≤ rowS g y i ∧ rowS g y i ≤ 2199023255552000):=by
  obtain ⟨g1,g2,g3⟩:=hG;obtain ⟨a1,a2,a3,_⟩:=h;have hpr:∀ i j,i < g.length → j < y.length → -219902325555200 ≤ (g.getD i []).getD j 0 * y.getD j 0 ∧ (g.getD i []).getD j 0 * y.getD j 0 ≤ 219902325555200:=fun p j hp hj => by
    have h1:=g3 _ (getD_mem (d:=[]) hp);have h2:=h1.2 _ (getD_mem (d:=0) (show j < (g.getD p []).length by have:=h1.1; omega))
    have h3:=a3 _ (getD_mem (d:=0) hj);have h4:(g.getD p []).getD j 0 * y.getD j 0 ≤ 100 * 2199023255552:=by
      rcases Int.le_total 0 ((g.getD p []).getD j 0) with h | h
      · exact Int.mul_le_mul h2.2 (by omega) h3.1 (by decide)
      · have:=Int.mul_nonpos_of_nonpos_of_nonneg h h3.1; omega
    have h5:-(g.getD p []).getD j 0 * y.getD j 0 ≤ 100 * 2199023255552:=by
      rcases Int.le_total 0 ((g.getD p []).getD j 0) with h | h
      · have:=Int.mul_nonpos_of_nonpos_of_nonneg (show -(g.getD p []).getD j 0 ≤ 0 by omega) h3.1; omega
      · exact Int.mul_le_mul (by omega) (by omega) h3.1 (by decide)
    rw [Int.neg_mul] at h5;omega
  refine ⟨by omega,a2,fun i hi => by have:=(g3 _ (getD_mem (d:=[]) hi)).1; omega,hpr,fun i hi => ?_⟩
  have q:∀ k,k ≤ y.length → -(219902325555200 * (k:Int)) ≤ dotL (g.getD i []) y k ∧ dotL (g.getD i []) y k ≤ 219902325555200 * (k:Int):=fun k => by
    induction k with
    | zero => intro _; simp [dotL]
    | succ k ih =>
      intro hk;have h1:=ih (by omega)
      have h2:=hpr i k hi (by omega)
      rw [dotL_succ]; omega
  have:=q y.length (Nat.le_refl _);unfold rowS;omega
theorem sg_ge {z:Int}:0 ≤ (if z < 0 then (-1:Int) else if 0 < z then 1 else 0) ↔ 0 ≤ z:=by split <;> (try split) <;> omega
theorem sg_le {z:Int}:(if z < 0 then (-1:Int) else if 0 < z then 1 else 0) ≤ 0 ↔ z ≤ 0:=by split <;> (try split) <;> omega

variable {S:AM.Sys} (hS:Only S 5)
include hS

set_option maxHeartbeats 8000000 in
theorem pIs_runs (g:List (List Int)) (gv v1 v2:Value) (p q:Int) (x y:List Int) (dx dy:Int) (r o r1 o1 r2 o2:Nat) (H:Heap) (hgr:Grp H) (hL:H.low ≤ H.size) (hg:SlG H gv g r o) (hx:SlI .i64 H v1 x r1 o1) (hy:SlI .i64 H v2 y r2 o2) :
    ∃ u H',Runs Tryd.prog S (.fn 6) [gv,.agg ⟨[.int .i64 p,.int .i64 q,v1,.int .i64 dx,v2,.int .i64 dy]⟩] H u H' ∧ PostIs g p q x dx y dy H u H':=by
  suffices h:WCall Tryd.prog S (.fn 6) [gv,.agg ⟨[.int .i64 p,.int .i64 q,v1,.int .i64 dx,v2,.int .i64 dy]⟩] H (fun u H' => PostIs g p q x dx y dy H u H') by
    obtain ⟨u,H',hr,h⟩:=h; exact ⟨u,H',hr,h⟩
  obtain ⟨a,cap,rfl⟩:=hg.v0;obtain ⟨a1,cap1,rfl⟩:=hx.v0;obtain ⟨a2,cap2,rfl⟩:=hy.v0;obtain ⟨H1,e1,k1,sb1⟩:=boxS H p q dx dy (.slice a1 x.length cap1) (.slice a2 y.length cap2);obtain ⟨H2,k2,R2⟩:=isGame_runs hS g _ r o H1 (hg.keep k1);have f2:=R2.bx;have k02:=k1.trans k2;have hcs:(Value.agg ⟨[.int .i64 p,.int .i64 q,.slice a1 x.length cap1,.int .i64 dx,.slice a2 y.length cap2,.int .i64 dy]⟩).cells.toList = [.int .i64 p,.int .i64 q,.slice a1 x.length cap1,.int .i64 dx,.slice a2 y.length cap2,.int .i64 dy]:=rfl;refine Zaaw Tryd.func6 rfl (Nat.le_of_ble_eq_true rfl) (hS.no rfl _ _) ?_
  rw [Tryd.ntmps6,Tryd.results6]
  by_cases hG:IsG g
  case neg =>
    rw [decide_eq_false hG] at f2;have hpo:PostIs g p q x dx y dy H (.tuple ⟨[.bool false,.int .i64 2]⟩) H2:=⟨false,2,rfl,k02,fun _ => ⟨rfl,rfl⟩,fun h => absurd h hG⟩
    clear hg hx hy hG k1 k2 k02 R2 hgr sb1
    repeat' (first | simp only [↓Zabr,↓Zabm,↓Zabo,↓Zabq,↓Zaag,↓Zabp,↓Zaci,↓Zach,↓Zacb,↓Zaai,↓Zabz,↓sxDL_assign,↓sxDL_pick,↓Zaby,↓sxDL_unOp,↓Zabw,↓Zabx,↓Zacn,↓Zaav,↓Zaar,↓Zaaj,↓Zaas,↓Zaal,↓Zaaq,↓Zaak,↓bxOp_un,↓Zaan,↓Zaao,↓Zaau,↓Zaap,↓bxPut,↓Zabj,↓Zabk,↓Zabh,↓Zacl,↓Zacm,↓Zaco,↓Zaba,↓Zaay,↓Zaaz,↓dstAt,↓Zabb,Zacj,una_nf,Zabs,Zacg,packRes_two,List.map,List.nil_append,List.append_nil,↓reduceIte,Nat.reduceEqDiff,Nat.reduceLT, *,argF,List.getD_cons_zero,List.getD_cons_succ,packRes_two] | (with_reducible first | refine Zabu (by assumption) (by decide +kernel) ?_ | refine Zabt (by decide +kernel) ?_ | refine Zaca (by decide +kernel) ?_ | refine Zabv ?_))
  rw [decide_eq_true hG] at f2;have sb2:=sb1.keep k2;have l2:=k02.low hL;have hgl:=hG.1;have hgl2:=hG.2.1;have no:∀ X,Keep H X → ¬ SadOk g p q x dx y dy → PostIs g p q x dx y dy H (.tuple ⟨[.bool false,.int .i64 0]⟩) X:=fun X hk hn => ⟨false,0,rfl,hk,fun h => absurd hG h,fun _ => ⟨rfl,⟨fun h => (by cases h),fun h => absurd h hn⟩⟩⟩
  have rv2:=sb2.val;obtain ⟨Ha,H3,k3,l3,f3,d3⟩:=drawn l2 (isValue_runs hS p q (H2.relow H2.size));have k03:=k02.trans k3
  by_cases h1:ValOk p q
  case neg =>
    rw [decide_eq_false h1] at f3;have hpo:=no H3 k03 (fun h => h1 h.1)
    clear hg hx hy hG k1 k2 k02 R2 hgr sb1 sb2 no k3 k03 h1 hgl hgl2
    repeat' (first | simp only [↓Zabr,↓Zabm,↓Zabo,↓Zabq,↓Zaag,↓Zabp,↓Zaci,↓Zach,↓Zacb,↓Zaai,↓Zabz,↓sxDL_assign,↓sxDL_pick,↓Zaby,↓sxDL_unOp,↓Zabw,↓Zabx,↓sxD_same,↓Zacn,↓Zaav,↓Zaar,↓Zaaj,↓Zaas,↓Zaal,↓Zaaq,↓Zaak,↓bxOp_un,↓Zaan,↓Zaao,↓Zaau,↓Zaap,↓bxPut,↓Zabj,↓Zabk,↓Zabh,↓Zacl,↓Zacm,↓Zaco,↓Zaba,↓Zaay,↓Zaaz,↓dstAt,↓Zabb,Zacj,una_nt,una_nf,Zaac,Zabs,sxGuardB_ft,Zacg,Zacf,packRes_two,List.map,List.nil_append,List.append_nil,↓reduceIte,Nat.reduceEqDiff,Nat.reduceLT,Zaaa,Option.map_some, *,argF,List.getD_cons_zero,List.getD_cons_succ,faS0,ldRt,packRes_two] | (with_reducible first | refine Zabu (by assumption) (by decide +kernel) ?_ | refine Zabt (by decide +kernel) ?_ | refine Zaca (by decide +kernel) ?_ | refine Zabv ?_))
  rw [decide_eq_true h1] at f3;have sb3:=sb2.keep k3;have rr3:=sb3.rows;obtain ⟨Hb,H4,k4,l4,f4,d4⟩:=drawn l3 (isMix_runs hS _ x dx (g.length:Int) 2199023255552 (by decide) (by omega) r1 o1 (H3.relow H3.size) ((hx.keep k03).keep (Keep.relowS H3)))
  have k04:=k03.trans k4
  by_cases h2:Mix x dx (g.length:Int) 2199023255552
  case neg =>
    rw [decide_eq_false h2] at f4;have hpo:=no H4 k04 (fun h => h2 h.2.1)
    clear hg hx hy hG k1 k2 k02 R2 hgr sb1 sb2 sb3 no k3 k03 k4 k04 h1 h2 hgl hgl2
    repeat' (first | simp only [↓Zabr,↓Zabm,↓Zabo,↓Zabq,↓Zaag,↓Zabp,↓Zaci,↓Zach,↓Zacb,↓Zaai,↓Zabz,↓sxDL_assign,↓sxDL_pick,↓Zaby,↓sxDL_unOp,↓Zabw,↓Zabx,↓sxD_same,↓Zacn,↓Zaav,↓Zaar,↓Zaaj,↓Zaas,↓Zaal,↓Zaaq,↓Zaak,↓bxOp_un,↓Zaan,↓Zaao,↓Zaau,↓Zaap,↓bxPut,↓Zabj,↓Zabk,↓Zabh,↓Zacl,↓Zacm,↓Zaco,↓Zaba,↓Zaay,↓Zaaz,↓dstAt,↓Zabb,Zacj,una_nt,una_nf,Zaac,Zaab,Zabs,sxGuardB_ft,Zacc,Zacg,Zacf,packRes_two,List.map,List.nil_append,List.append_nil,↓reduceIte,Nat.reduceEqDiff,Nat.reduceLT,Zaaa,Option.map_some, *,argF,List.getD_cons_zero,List.getD_cons_succ,faS0,faS1,ldRt,Q.ldP,lenG,packRes_two,Nat.zero_add] | (with_reducible first | refine Zabu (by assumption) (by decide +kernel) ?_ | refine Zabt (by decide +kernel) ?_ | refine Zaca (by decide +kernel) ?_ | refine Zabv ?_))
  rw [decide_eq_true h2] at f4;have sb4:=sb3.keep k4;have rc4:=sb4.cols;have hob:=SlG_at (hg.keep k04) (k:=0) (by omega)
  obtain ⟨ix0,xv0,r00,o00,rd00,s00⟩:=hob;obtain ⟨a00,c00,rfl⟩:=s00.v0;have ix0:aIndexAt Tryd.prog 22 (.slice a g.length cap) (.int .i64 0) = some (.pointer (some ⟨r,o,none⟩)):=ix0;have rd00:H4.read r o 1 = some [.slice a00 (g.getD 0 default).length c00]:=rd00;obtain ⟨gw,hgw⟩:∃ gw,(g.getD 0 default).length = gw:=⟨_,rfl⟩;rw [hgw] at rd00 hgl2;obtain ⟨Hc,H5,k5,l5,f5,d5⟩:=drawn l4 (isMix_runs hS _ y dy (gw:Int) 2199023255552 (by decide) (by omega) r2 o2 (H4.relow H4.size) ((hy.keep k04).keep (Keep.relowS H4)))
  have k05:=k04.trans k5
  by_cases h3:Mix y dy (gw:Int) 2199023255552
  case neg =>
    rw [decide_eq_false h3] at f5;have hpo:=no H5 k05 (fun h => h3 (by have:=h.2.2.1; rwa [hgw] at this))
    clear hg hx hy hG k1 k2 k02 R2 hgr sb1 sb2 sb3 sb4 no k3 k03 k4 k04 k5 k05 h1 h2 h3 hgl hgl2 s00
    repeat' (first | simp only [↓Zabr,↓Zabm,↓Zabo,↓Zabq,↓Zaag,↓Zabp,↓Zaci,↓Zach,↓Zacb,↓Zaai,↓Zabz,↓sxDL_assign,↓sxDL_pick,↓Zaby,↓sxDL_unOp,↓Zabw,↓Zabx,↓sxD_same,↓Zacn,↓Zaav,↓Zaar,↓Zaaj,↓Zaas,↓Zaal,↓Zaaq,↓Zaak,↓bxOp_un,↓Zaan,↓Zaao,↓Zaau,↓Zaap,↓bxPut,↓Zabj,↓Zabk,↓Zabh,↓Zacl,↓Zacm,↓Zaco,↓Zaba,↓Zaay,↓Zaaz,↓dstAt,↓Zabb,Zacj,una_nt,una_nf,Zaab,Zabs,Zacc,Zacg,Zacf,packRes_two,List.map,List.nil_append,List.append_nil,↓reduceIte,Nat.reduceEqDiff,Nat.reduceLT,Zaaa,one1,Option.bind_some,Option.map_some, *,argF,List.getD_cons_zero,List.getD_cons_succ,faS0,faS1,faS2,ldRt,Q.ldP,lenG,lenI,ldIs,packRes_two,Nat.zero_add] | (with_reducible first | refine Zabu (by assumption) (by decide +kernel) ?_ | refine Zabt (by decide +kernel) ?_ | refine Zaca (by decide +kernel) ?_ | refine Zabv ?_))
  rw [decide_eq_true h3] at f5;have hokx:AnsOk g x dx:=⟨hG,h2⟩;have hy3:Mix y dy ((g.getD 0 default).length:Int) 2199023255552:=by rw [hgw]; exact h3
  obtain ⟨b1,b2,b3,b4,b5,b6,b7,b8⟩:=ans_rng hokx;obtain ⟨c1,c2,c3,c4,c5⟩:=row_rng hG hy3;have hcr:=fun j (hj:j < (g.getD 0 default).length) => colS_rng hokx hj
  rw [hgw] at b5 b6 b7 b8 c1 hcr;have g5:=k05.grp hgr;have sb5:=sb4.keep k5;have hob:=turned_runs hS g _ r o gw (H5.relow H5.size) ((Keep.relowS H5).grp g5) (Nat.le_refl _) ((hg.keep k05).keep (Keep.relowS H5)) b3 (by omega) (by omega) b7
  obtain ⟨u6,H6a,w,R6,k6a,sw6a,hwl,hwv⟩:=hob;have hd6:∀ (all:List Oper) (n:Nat) (k:Heap → Prop),sxD all n H5 H6a k = k (H6a.relow (Nat.min H5.low H6a.low)):=fun all n k => sxD_keep k6a k
  have k6:=Keep.draw k6a;have sw6:=sw6a.ge (stable_slice (stable_int .i64 0)) (fun _ => Nat.zero_le _) ((Ge.refl 0 H6a).relow (l:=Nat.min H5.low H6a.low))
  generalize H6a.relow (Nat.min H5.low H6a.low) = H6 at *;have k06:=k05.trans k6;have g6:=k06.grp hgr;have l6:=k06.low hL;have sb6:=sb5.keep k6;have rn6:=sb6.rnum;obtain ⟨a6,c6,rfl⟩:=sw6.v0;have hwg:∀ k,k < w.length → w.getD k default = colT g k g.length:=fun k hk => hwv k (by omega)
  have hob:=pays_runs hS w _ _ _ _ x r1 o1 (H6.relow H6.size) ((Keep.relowS H6).grp g6) (Nat.le_refl _) (sw6.keep (Keep.relowS H6)) ((hx.keep k06).keep (Keep.relowS H6)) (by omega) (by omega) (by omega)
    (fun k hk => by rw [show w.getD k [] = colT g k g.length from hwg k hk,colT_len]; omega) (fun k p hk hp => by
      rw [show w.getD k [] = colT g k g.length from hwg k hk,colT_at g k (by omega)]
      have:=b8 p k (by omega) (by omega); omega)
  obtain ⟨u7,H7a,L,R7,k7a,sl7a,hLl,hLv⟩:=hob;have hd7:∀ (all:List Oper) (n:Nat) (k:Heap → Prop),sxD all n H6 H7a k = k (H7a.relow (Nat.min H6.low H7a.low)):=fun all n k => sxD_keep k7a k
  have k7:=Keep.draw k7a;have sl7:=sl7a.ge (stable_int .i64 0) (fun _ => Nat.zero_le _) ((Ge.refl 0 H7a).relow (l:=Nat.min H6.low H7a.low))
  generalize H7a.relow (Nat.min H6.low H7a.low) = H7 at *;have k07:=k06.trans k7;have l7:=k07.low hL;obtain ⟨a7,c7,rfl⟩:=sl7.v0;have hLs:∀ k,k < gw → L.getD k 0 = colS g x k:=fun k hk => by
    rw [hLv k (by omega),show w.getD k [] = colT g k g.length from hwg k (by omega)]; rfl
  obtain ⟨b,hb,R8⟩:=minI_runs hS _ L _ _ (H7.relow H7.size) (Nat.le_refl _) (sl7.keep (Keep.relowS H7)) (by omega) (by omega)
  have hbl:b < gw:=by have:=hb.1; omega
  have hbA:∀ k,k < gw → colS g x b ≤ colS g x k:=fun k hk => by
    have:=hb.2.1 k (by omega); rw [← hLs b hbl,← hLs k hk]; exact this
  rw [hLs b hbl] at R8;obtain ⟨H8a,H8,k8,l8,f8,d8⟩:=drawn l7 ⟨_,Keep.refl _,R8⟩;have k08:=k07.trans k8;have sb8:=(sb6.keep k7).keep k8;have rc8:=sb8.cnum;obtain ⟨u9,H9,M,R9,k9,sl9,hMl,hMv⟩:=pays_runs hS g _ r o _ y r2 o2 H8 (k08.grp hgr) l8 (hg.keep k08) (hy.keep k08) b3 (by omega) (by omega) c3 (fun i j hi hj => by have:=c4 i j hi hj; omega)
  obtain ⟨a9,c9,rfl⟩:=sl9.v0;have k09:=k08.trans k9;have l9:=k09.low hL;obtain ⟨m,hm,R10⟩:=maxI_runs hS _ M _ _ H9 l9 sl9 (by omega) (by omega)
  have hml:m < g.length:=by have:=hm.1; omega
  have hmA:∀ k,k < g.length → rowS g y k ≤ rowS g y m:=fun k hk => by
    have h:=hm.2.1 k (by omega)
    have h:- M.getD m 0 ≤ - M.getD k 0:=h;have e1:M.getD m 0 = rowS g y m:=hMv m hml;have e2:M.getD k 0 = rowS g y k:=hMv k hk;omega
  have hMm:M.getD m 0 = rowS g y m:=hMv m hml;rw [hMm] at R10;have sb9:=sb8.keep k9;have hcb:=hcr b hbl;have hrm:=c5 m hml;have hval:=h1;obtain ⟨h1a,h1b,-⟩:=h1;obtain ⟨H10,k10,R11⟩:=pcompare_runs hS (colS g x b) dx p q H9 (k09.grp hgr) l9 (by omega) (by omega) (by omega) (by omega)
  have k010:=k09.trans k10;have l10:=k010.low hL;have sb10:=sb9.keep k10;obtain ⟨H11,k11,R12⟩:=pcompare_runs hS (rowS g y m) dy p q H10 (k010.grp hgr) l10 (by omega) (by omega) (by omega) (by omega)
  have k011:=k010.trans k11;have hge:=sg_ge (z:=colS g x b * q - p * dx);have hle:=sg_le (z:=rowS g y m * q - p * dy);have hC1:0 ≤ colS g x b * q - p * dx ↔ ∀ j,j < (g.getD 0 default).length → p * dx ≤ colS g x j * q:=by
    rw [hgw];constructor
    · intro h j hj;have:=Int.mul_le_mul_of_nonneg_right (hbA j hj) (show 0 ≤ q by omega)
      omega
    · intro h; have:=h b hbl; omega
  have hC2:rowS g y m * q - p * dy ≤ 0 ↔ ∀ i,i < g.length → rowS g y i * q ≤ p * dy:=by
    constructor
    · intro h j hj;have:=Int.mul_le_mul_of_nonneg_right (hmA j hj) (show 0 ≤ q by omega)
      omega
    · intro h; have:=h m hml; omega
  rw [hC1] at hge;rw [hC2] at hle;have f6:=R6.bx;have f7:=R7.bx;have f9:=R9.bx;have f10:=R10.bx;have f11:=R11.bx;have f12:=R12.bx;obtain ⟨s1,hs1⟩:∃ s1:Int,(if colS g x b * q - p * dx < 0 then (-1:Int) else if 0 < colS g x b * q - p * dx then 1 else 0) = s1:=⟨_,rfl⟩
  obtain ⟨s2,hs2⟩:∃ s2:Int,(if rowS g y m * q - p * dy < 0 then (-1:Int) else if 0 < rowS g y m * q - p * dy then 1 else 0) = s2:=⟨_,rfl⟩
  rw [hs1] at hge f11;rw [hs2] at hle f12;have rd9:=sb9.rden;have rv9:=sb9.val;have rd10:=sb10.cden;have rv10:=sb10.val;have hp1:¬ 0 ≤ s1 → PostIs g p q x dx y dy H (.tuple ⟨[.bool false,.int .i64 0]⟩) H10:=fun h => no H10 k010 (fun hs => h (hge.2 hs.2.2.2.1))
  have hp2:¬ s2 ≤ 0 → PostIs g p q x dx y dy H (.tuple ⟨[.bool false,.int .i64 0]⟩) H11:=fun h => no H11 k011 (fun hs => h (hle.2 hs.2.2.2.2))
  have hp3:0 ≤ s1 → s2 ≤ 0 → PostIs g p q x dx y dy H (.tuple ⟨[.bool true,.int .i64 0]⟩) H11:=fun h h' => ⟨true,0,rfl,k011,fun hn => absurd hG hn,fun _ => ⟨rfl,⟨fun _ => ⟨hval,h2,hy3,hge.1 h,hle.1 h'⟩,fun _ => rfl⟩⟩⟩
  clear hge hle hC1 hC2 hs1 hs2 hval h1a h1b hcb hrm R6 R7 R8 R9 R10 R11 R12 R2 hb hbl hbA hm hml hmA hMm hMv hMl hLs hLl hLv hwv hwl hwg b1 b2 b3 b4 b5 b6 b7 b8 c1 c2 c3 c4 c5 hcr hokx hy3 h2 h3 hG hgl hgl2 hgw no sb1 sb2 sb3 sb4 sb5 sb6 sb8 sb9 sb10 k1 k2 k02 k3 k03 k4 k04 k5 k05 k6 k06 k7 k07 k8 k08 k9 k09 k10 k010 k11 k011 k6a k7a sw6 sw6a sl7 sl7a sl9 hg hx hy g5 g6 hgr s00
  by_cases hs1:0 ≤ s1
  case neg =>
    replace hp1:=hp1 hs1;clear hp2 hp3 f12 rd10 rv10
    repeat' (first | simp only [↓Zabr,↓Zabm,↓Zabo,↓Zabq,↓Zaag,↓Zabp,↓Zaci,↓Zach,↓Zacb,↓Zaai,↓Zabz,↓sxDL_assign,↓sxDL_pick,↓Zaby,↓sxDL_unOp,↓Zabw,↓Zabx,↓sxD_same,↓Zacn,↓Zaav,↓Zaar,↓Zaaj,↓Zaas,↓Zaal,↓Zaaq,↓Zaak,↓bxOp_un,↓Zaan,↓Zaao,↓Zaau,↓Zaap,↓bxPut,↓Zabj,↓Zabk,↓Zabh,↓Zacl,↓Zacm,↓Zaco,↓Zaba,↓Zaay,↓Zaaz,↓dstAt,↓Zabb,Zacj,Zaad,Zabc,una_nt,Zaab,Zabs,sxGuardB_tf,Zacc,Zacf,packRes_two,List.map,List.nil_append,List.append_nil,↓reduceIte,Nat.reduceEqDiff,Nat.reduceLT,dec_F,Zaaa,one1,Option.bind_some,Option.map_some, *,argF,List.getD_cons_zero,List.getD_cons_succ,faS0,faS1,faS2,ldRt,Q.ldP,Q.fldP0,Q.fldP1,lenG,lenI,ldI,ldIs,packRes_two,Nat.zero_add] | (with_reducible first | refine Zabu (by assumption) (by decide +kernel) ?_ | refine Zabt (by decide +kernel) ?_ | refine Zaca (by decide +kernel) ?_ | refine Zabv ?_))
  by_cases hs2:s2 ≤ 0
  case neg =>
    replace hp2:=hp2 hs2;clear hp1 hp3
    repeat' (first | simp only [↓Zabr,↓Zabm,↓Zabo,↓Zabq,↓Zaag,↓Zabp,↓Zaci,↓Zach,↓Zacb,↓Zaai,↓Zabz,↓sxDL_assign,↓sxDL_pick,↓Zaby,↓sxDL_unOp,↓Zabw,↓Zabx,↓sxD_same,↓Zacn,↓Zaav,↓Zaar,↓Zaaj,↓Zaas,↓Zaal,↓Zaaq,↓Zaak,↓bxOp_un,↓Zaan,↓Zaao,↓Zaau,↓Zaap,↓bxPut,↓Zabj,↓Zabk,↓Zabh,↓Zacl,↓Zacm,↓Zaco,↓Zaba,↓Zaay,↓Zaaz,↓dstAt,↓Zabb,Zacj,Zaad,Zabc,una_nt,Zaac,Zaab,Zabs,sxGuardB_tt,Zacc,Zacf,packRes_two,List.map,List.nil_append,List.append_nil,↓reduceIte,Nat.reduceEqDiff,Nat.reduceLT,dec_T,dec_F,Zaaa,one1,Option.bind_some,Option.map_some, *,argF,List.getD_cons_zero,List.getD_cons_succ,faS0,faS1,faS2,ldRt,Q.ldP,Q.fldP0,Q.fldP1,lenG,lenI,ldI,ldIs,packRes_two,Nat.zero_add] | (with_reducible first | refine Zabu (by assumption) (by decide +kernel) ?_ | refine Zabt (by decide +kernel) ?_ | refine Zaca (by decide +kernel) ?_ | refine Zabv ?_))
  replace hp3:=hp3 hs1 hs2;clear hp1 hp2
  repeat' (first | simp only [↓Zabr,↓Zabm,↓Zabo,↓Zabq,↓Zaag,↓Zabp,↓Zaci,↓Zach,↓Zacb,↓Zaai,↓Zabz,↓sxDL_assign,↓sxDL_pick,↓Zaby,↓sxDL_unOp,↓Zabw,↓Zabx,↓sxD_same,↓Zacn,↓Zaav,↓Zaar,↓Zaaj,↓Zaas,↓Zaal,↓Zaaq,↓Zaak,↓bxOp_un,↓Zaan,↓Zaao,↓Zaau,↓Zaap,↓bxPut,↓Zabj,↓Zabk,↓Zabh,↓Zacl,↓Zacm,↓Zaco,↓Zaba,↓Zaay,↓Zaaz,↓dstAt,↓Zabb,Zacj,Zaad,Zabc,una_nt,Zaac,Zaab,Zabs,sxGuardB_tt,Zacc,Zacf,packRes_two,List.map,List.nil_append,List.append_nil,↓reduceIte,Nat.reduceEqDiff,Nat.reduceLT,dec_T,Zaaa,one1,Option.bind_some,Option.map_some, *,argF,List.getD_cons_zero,List.getD_cons_succ,faS0,faS1,faS2,ldRt,Q.ldP,Q.fldP0,Q.fldP1,lenG,lenI,ldI,ldIs,packRes_two,Nat.zero_add] | (with_reducible first | refine Zabu (by assumption) (by decide +kernel) ?_ | refine Zabt (by decide +kernel) ?_ | refine Zaca (by decide +kernel) ?_ | refine Zabv ?_))
end Go.Proofs.YtdfjaoncabanbaaDoor
