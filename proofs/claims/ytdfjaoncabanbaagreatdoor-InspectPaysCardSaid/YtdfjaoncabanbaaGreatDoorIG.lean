/- What a mixture of rows pays against one of columns, by the program: what is refused. -/
import Derived.Test.YtdfjaoncabanbaaGreatDoorIF
set_option linter.unusedVariables false
set_option linter.unusedSimpArgs false
set_option linter.unusedSectionVars false

namespace Go.Proofs.YtdfjaoncabanbaaGreatDoor
open Go Go.AM
set_option maxRecDepth 10000

theorem bdR0:aBuild Tryz.prog 29 [] = some (.agg ⟨[.int .i64 0,.int .i64 0]⟩):=by kernel_rfl
theorem stH {t:TypeId} {inf:TypeInfo} (hi:Tryz.prog.info? t = some inf) {H0 H:Heap} {r:Nat} {cells:List Value} (hk:Keep H0 H) (hr:H0.size ≤ r) (ow:Own H r t cells) {v:Value} {new:List Value} (hv:v.cells.toList = new) (hs:inf.size = new.length) (hp:ones new = true) (hl:cells.length = new.length) :
    ∃ Ha,aStore Tryz.prog H t (.pointer (some ⟨r,0,none⟩)) v = some Ha ∧ Keep H0 Ha ∧ Ha.size = H.size ∧ Own Ha r t new ∧ (∀ r' e' c',r' ≠ r → Own H r' e' c' → Own Ha r' e' c'):=by
  obtain ⟨Ha,h1,h2,h3,h4,h5⟩:=ow.store (t:=t) hi (v:=v) (new:=new) hv hs hp (o:=0) (by omega)
  rw [splice_whole hl] at h2;exact ⟨Ha,h1,h5 H0 hk hr,h3,h2,h4⟩
def PayOk (g:List (List Int)) (x:List Int) (dx:Int) (y:List Int) (dy:Int):Prop:=IsG g ∧ Mix x dx (g.length:Int) 1000000 ∧ Mix y dy ((g.getD 0 default).length:Int) 1000000
instance (g:List (List Int)) (x:List Int) (dx:Int) (y:List Int) (dy:Int):Decidable (PayOk g x dx y dy):=by unfold PayOk; infer_instance

def payS (g:List (List Int)) (x y:List Int) (k:Nat):Int:=((List.range k).map fun i => x.getD i 0 * dotL (g.getD i []) y y.length).sum
theorem payS_succ (g:List (List Int)) (x y:List Int) (k:Nat):payS g x y (k + 1) = payS g x y k + x.getD k 0 * dotL (g.getD k []) y y.length:=by simp [payS,List.range_succ]
def PostPay (g:List (List Int)) (x:List Int) (dx:Int) (y:List Int) (dy:Int) (H:Heap) (u:Value) (H':Heap):Prop:=
  ∃ p q e,u = .tuple ⟨[.agg ⟨[.int .i64 p,.int .i64 q]⟩,.int .i64 e]⟩ ∧ Keep H H' ∧ (¬ PayOk g x dx y dy → p = 0 ∧ q = 0 ∧ e = 2) ∧ (PayOk g x dx y dy → e = 0 ∧ (p,q) = rat (payS g x y g.length) (dx * dy))
theorem ok_rng {g:List (List Int)} {x y:List Int} {dx dy:Int} (h:PayOk g x dx y dy):x.length = g.length ∧ g.length ≤ 5 ∧ 0 < g.length ∧ y.length ≤ 5 ∧ (1 ≤ dx ∧ dx ≤ 1000000) ∧ (1 ≤ dy ∧ dy ≤ 1000000) ∧ (∀ i,i < g.length → (g.getD i []).length = y.length) ∧
    (∀ i j,i < g.length → j < y.length → -100000000 ≤ (g.getD i []).getD j 0 * y.getD j 0 ∧ (g.getD i []).getD j 0 * y.getD j 0 ≤ 100000000) ∧ (∀ i,i < x.length → 0 ≤ x.getD i 0 ∧ x.getD i 0 ≤ 1000000):=by
  obtain ⟨⟨g1,g2,g3⟩,⟨a1,a2,a3,_⟩,⟨b1,b2,b3,_⟩⟩:=h;refine ⟨by omega,by omega,by omega,by omega,a2,b2,fun i hi => ?_,fun i j hi hj => ?_,fun i hi => ?_⟩
  · have h1:=(g3 _ (getD_mem (d:=[]) hi)).1;omega
  · have h1:=g3 _ (getD_mem (d:=[]) hi);have h2:=h1.2 _ (getD_mem (d:=0) (show j < (g.getD i []).length by have:=h1.1; omega))
    have h3:=b3 _ (getD_mem (d:=0) hj);have h4:(g.getD i []).getD j 0 * y.getD j 0 ≤ 100 * 1000000:=by
      rcases Int.le_total 0 ((g.getD i []).getD j 0) with h | h
      · exact Int.mul_le_mul h2.2 (by omega) h3.1 (by decide)
      · have:=Int.mul_nonpos_of_nonpos_of_nonneg h h3.1; omega
    have h5:-(g.getD i []).getD j 0 * y.getD j 0 ≤ 100 * 1000000:=by
      rcases Int.le_total 0 ((g.getD i []).getD j 0) with h | h
      · have:=Int.mul_nonpos_of_nonpos_of_nonneg (show -(g.getD i []).getD j 0 ≤ 0 by omega) h3.1; omega
      · exact Int.mul_le_mul (by omega) (by omega) h3.1 (by decide)
    rw [Int.neg_mul] at h5;omega
  · have:=a3 _ (getD_mem (d:=0) hi); omega

variable {S:AM.Sys} (hS:Only S 5)
include hS

set_option maxHeartbeats 8000000 in
theorem Pay_runs (g:List (List Int)) (gv v1 v2:Value) (x y:List Int) (dx dy:Int) (r o r1 o1 r2 o2:Nat) (H:Heap) (hgr:Grp H) (hL:H.low ≤ H.size) (hg:SlG H gv g r o) (hx:SlI .i64 H v1 x r1 o1) (hy:SlI .i64 H v2 y r2 o2) :
    ∃ u H',Runs Tryz.prog S (.fn 6) [gv,.agg ⟨[v1,.int .i64 dx]⟩,.agg ⟨[v2,.int .i64 dy]⟩] H u H' ∧ PostPay g x dx y dy H u H':=by
  suffices h:WCall Tryz.prog S (.fn 6) [gv,.agg ⟨[v1,.int .i64 dx]⟩,.agg ⟨[v2,.int .i64 dy]⟩] H (fun u H' => PostPay g x dx y dy H u H') by
    obtain ⟨u,H',hr,h⟩:=h; exact ⟨u,H',hr,h⟩
  have hgv:=hg.v0;obtain ⟨a,cap,rfl⟩:=hgv;obtain ⟨a1,cap1,rfl⟩:=hx.v0;obtain ⟨a2,cap2,rfl⟩:=hy.v0;obtain ⟨H1,e1,k1,z1,rx2,rx0,rx1⟩:=Q.boxP H (.slice a1 x.length cap1) (.int .i64 dx);obtain ⟨H2,e2,k2,z2,ry2,ry0,ry1⟩:=Q.boxP H1 (.slice a2 y.length cap2) (.int .i64 dy);obtain ⟨H3,e3,k3,z3,ow3,-,-,-⟩:=box2 H2 0 0 29;have k02:=k1.trans k2;have k03:=k02.trans k3;have lo3:=k03.low hL;have zb1:H.size < H2.size:=Nat.lt_of_lt_of_le z1 k2.size;have rx3:=k3.read zb1 (k2.read z1 rx2);have ry3:=k3.read z2 ry2;have zb3:H.size < H3.size:=Nat.lt_of_lt_of_le zb1 k3.size;have zc3:H1.size < H3.size:=Nat.lt_of_lt_of_le z2 k3.size;have hob:=drawn lo3 (isGame_runs hS g _ r o (H3.relow H3.size) ((hg.keep k03).keep (Keep.relowS H3)));obtain ⟨Ha,H4,k4,lo4,f4,fd4⟩:=hob;have k04:=k03.trans k4;refine call_of Tryz.func6 rfl (Nat.le_of_ble_eq_true rfl) (hS.no rfl _ _) ?_
  rw [Tryz.ntmps6,Tryz.results6]
  by_cases h1:IsG g
  case neg =>
    rw [decide_eq_false h1] at f4;obtain ⟨H5,p5,k5,zz5,ow5,-⟩:=stH infR.1 k04 k02.size (ow3.keep k4) (v:=.agg ⟨[.int .i64 0,.int .i64 0]⟩) (new:=[.int .i64 0,.int .i64 0]) rfl infR.2 rfl rfl;obtain ⟨m5,-,-⟩:=own2 ow5;have hpo:PostPay g x dx y dy H (.tuple ⟨[.agg ⟨[.int .i64 0,.int .i64 0]⟩,.int .i64 2]⟩) H5:=⟨0,0,2,rfl,k5,fun _ => ⟨rfl,rfl,rfl⟩,fun h => absurd h.1 h1⟩
    clear hg hx hy h1 ow3 ow5 k1 k2 k3 k02 k03 k4 k04 k5 hgr
    repeat' (first | simp only [↓Zabr,↓Zabm,↓Zabo,↓Zabq,↓Zaaf,↓Zaag,↓Zabl,↓Zabp,↓Zaci,↓Zach,↓Zacb,↓Zaah,↓Zabz,↓sxDL_pick,↓Zaby,↓sxDL_unOp,↓Zabx,↓sxD_same,↓Zacn,↓Zaaw,↓Zaar,↓Zaaj,↓Zaas,↓Zaai,↓Zaal,↓bxOp_build,↓Zaaq,↓Zaat,↓Zaak,↓bxOp_un,↓Zaan,↓Zaao,↓Zaau,↓Zaap,↓Zack,↓bxPut,↓Zabj,↓Zabk,↓Zabh,↓Zacl,↓Zacm,↓Zaav,↓Zaco,↓Zaba,↓Zaay,↓Zaaz,↓dstAt,↓Zabb,Zacj,una_nf,aPick_true,Zabs,sxGuardB_ft,Zacg,packRes_two,List.map,List.nil_append,List.append_nil,↓reduceIte,Nat.reduceEqDiff,Nat.reduceLT,Option.map_some, *,argF,List.getD_cons_zero,List.getD_cons_succ,alR,bdR0,ldRt,cells2] | (with_reducible first | refine Zabu (by assumption) (by decide +kernel) ?_ | refine Zabt (by decide +kernel) ?_ | refine Zaca (by decide +kernel) ?_ | refine Zabv ?_))
  rw [decide_eq_true h1] at f4;have hgl:=h1.1;have hgl2:=h1.2.1;have hob:=drawn lo4 (isMix_runs hS _ x dx (g.length:Int) 1000000 (by decide) (by omega) r1 o1 (H4.relow H4.size) ((hx.keep k04).keep (Keep.relowS H4)))
  obtain ⟨Hb,H5,k5,lo5,f5,fd5⟩:=hob;have k05:=k04.trans k5;have rx4:=k4.read zb3 rx3;have ry4:=k4.read zc3 ry3
  by_cases h2:Mix x dx (g.length:Int) 1000000
  case neg =>
    rw [decide_eq_false h2] at f5;obtain ⟨H6,p5,k6,zz5,ow5,-⟩:=stH infR.1 k05 k02.size ((ow3.keep k4).keep k5) (v:=.agg ⟨[.int .i64 0,.int .i64 0]⟩) (new:=[.int .i64 0,.int .i64 0]) rfl infR.2 rfl rfl;obtain ⟨m5,-,-⟩:=own2 ow5;have hpo:PostPay g x dx y dy H (.tuple ⟨[.agg ⟨[.int .i64 0,.int .i64 0]⟩,.int .i64 2]⟩) H6:=⟨0,0,2,rfl,k6,fun _ => ⟨rfl,rfl,rfl⟩,fun h => absurd h.2.1 h2⟩
    clear hg hx hy h1 h2 ow3 ow5 k1 k2 k3 k02 k03 k4 k04 k5 k05 k6 hgr hgl hgl2
    repeat' (first | simp only [↓Zabr,↓Zabm,↓Zabo,↓Zabq,↓Zaaf,↓Zaag,↓Zabl,↓Zabp,↓Zaci,↓Zach,↓Zacb,↓Zaah,↓Zabz,↓sxDL_pick,↓Zaby,↓sxDL_unOp,↓Zabx,↓sxD_same,↓Zacn,↓Zaaw,↓Zaar,↓Zaaj,↓Zaas,↓Zaai,↓Zaal,↓bxOp_build,↓Zaaq,↓Zaat,↓Zaak,↓bxOp_un,↓Zaan,↓Zaao,↓Zaau,↓Zaap,↓Zack,↓bxPut,↓Zabj,↓Zabk,↓Zabh,↓Zacl,↓Zacm,↓Zaav,↓Zaco,↓Zaba,↓Zaay,↓Zaaz,↓dstAt,↓Zabb,Zacj,una_nt,una_nf,aPick_true,Zaab,Zabs,sxGuardB_ft,Zacc,Zacg,packRes_two,List.map,List.nil_append,List.append_nil,↓reduceIte,Nat.reduceEqDiff,Nat.reduceLT,Zaaa,Option.map_some, *,argF,List.getD_cons_zero,List.getD_cons_succ,alR,bdR0,ldRt,cells2,Q.ldP,lenG] | (with_reducible first | refine Zabu (by assumption) (by decide +kernel) ?_ | refine Zabt (by decide +kernel) ?_ | refine Zaca (by decide +kernel) ?_ | refine Zabv ?_))
  rw [decide_eq_true h2] at f5;have hob:=SlG_at (hg.keep k05) (k:=0) (by omega)
  obtain ⟨ix0,xv0,r00,o00,rd00,s00⟩:=hob;obtain ⟨a00,c00,rfl⟩:=s00.v0;have ix0:aIndexAt Tryz.prog 22 (.slice a g.length cap) (.int .i64 0) = some (.pointer (some ⟨r,o,none⟩)):=ix0;have rd00:H5.read r o 1 = some [.slice a00 (g.getD 0 default).length c00]:=rd00;obtain ⟨gw,hgw⟩:∃ gw,(g.getD 0 default).length = gw:=⟨_,rfl⟩;rw [hgw] at rd00;have hob:=drawn lo5 (isMix_runs hS _ y dy (gw:Int) 1000000 (by decide) (by omega) r2 o2 (H5.relow H5.size) ((hy.keep k05).keep (Keep.relowS H5)))
  obtain ⟨Hc,H6,k6,lo6,f6,fd6⟩:=hob;have k06:=k05.trans k6;have ry5:=k5.read (Nat.lt_of_lt_of_le zc3 k4.size) ry4
  by_cases h3:Mix y dy (gw:Int) 1000000
  case neg =>
    rw [decide_eq_false h3] at f6;obtain ⟨H7,p5,k7,zz5,ow5,-⟩:=stH infR.1 k06 k02.size (((ow3.keep k4).keep k5).keep k6) (v:=.agg ⟨[.int .i64 0,.int .i64 0]⟩) (new:=[.int .i64 0,.int .i64 0]) rfl infR.2 rfl rfl;obtain ⟨m5,-,-⟩:=own2 ow5;have hpo:PostPay g x dx y dy H (.tuple ⟨[.agg ⟨[.int .i64 0,.int .i64 0]⟩,.int .i64 2]⟩) H7:=⟨0,0,2,rfl,k7,fun _ => ⟨rfl,rfl,rfl⟩,fun h => absurd (by have:=h.2.2; rwa [hgw] at this) h3⟩
    clear hg hx hy h1 h2 h3 ow3 ow5 k1 k2 k3 k02 k03 k4 k04 k5 k05 k6 k06 k7 hgr hgl hgl2 hgw s00
    repeat' (first | simp only [↓Zabr,↓Zabm,↓Zabo,↓Zabq,↓Zaaf,↓Zaag,↓Zabl,↓Zabp,↓Zaci,↓Zach,↓Zacb,↓Zaah,↓Zabz,↓sxDL_pick,↓Zaby,↓sxDL_unOp,↓Zabx,↓sxD_same,↓Zacn,↓Zaaw,↓Zaar,↓Zaaj,↓Zaas,↓Zaai,↓Zaal,↓bxOp_build,↓Zaaq,↓Zaat,↓Zaak,↓bxOp_un,↓Zaan,↓Zaao,↓Zaau,↓Zaap,↓Zack,↓bxPut,↓Zabj,↓Zabk,↓Zabh,↓Zacl,↓Zacm,↓Zaav,↓Zaco,↓Zaba,↓Zaay,↓Zaaz,↓dstAt,↓Zabb,Zacj,una_nt,una_nf,Zaab,Zabs,Zacc,Zacg,packRes_two,List.map,List.nil_append,List.append_nil,↓reduceIte,Nat.reduceEqDiff,Nat.reduceLT,Zaaa,one1,Option.bind_some,Option.map_some, *,argF,List.getD_cons_zero,List.getD_cons_succ,alR,bdR0,ldRt,cells2,Q.ldP,lenG,lenI,ldIs,one1] | (with_reducible first | refine Zabu (by assumption) (by decide +kernel) ?_ | refine Zabt (by decide +kernel) ?_ | refine Zaca (by decide +kernel) ?_ | refine Zabv ?_))
  rw [decide_eq_true h3] at f6;have hok:PayOk g x dx y dy:=⟨h1,h2,by rw [hgw]; exact h3⟩
  obtain ⟨b1,b2,b3,b4,b5,b6,b7,b8,b9⟩:=ok_rng hok;have g6:=k06.grp hgr;have hob:=pays_runs hS g _ r o _ y r2 o2 H6 g6 (k06.low hL) (hg.keep k06) (hy.keep k06) b3 (by omega) (by omega) b7 (fun i j hi hj => by have:=b8 i j hi hj; omega)
  obtain ⟨u7,H7,L,R7,k7,s7,hLl,hLv⟩:=hob;obtain ⟨a7,c7,rfl⟩:=s7.v0;have f7:=R7.bx;have b1a:x.length ≤ g.length ∧ g.length ≤ x.length:=by omega
  obtain ⟨b11,b12⟩:=b1a;have b7':=fun i hi => Nat.le_of_eq (b7 i hi)
  have hL1:L.length ≤ g.length ∧ g.length ≤ L.length:=by omega
  obtain ⟨hL1,hL2⟩:=hL1;have k07:=k06.trans k7;have rx0':=k7.read (Nat.lt_of_lt_of_le (Nat.lt_of_lt_of_le (Nat.lt_of_lt_of_le zb3 k4.size) k5.size) k6.size) (k6.read (Nat.lt_of_lt_of_le (Nat.lt_of_lt_of_le zb3 k4.size) k5.size) (k5.read (Nat.lt_of_lt_of_le zb3 k4.size) (k4.read zb3 (k3.read zb1 (k2.read z1 rx0)))));have ry1':=k7.read (Nat.lt_of_lt_of_le (Nat.lt_of_lt_of_le (Nat.lt_of_lt_of_le zc3 k4.size) k5.size) k6.size) (k6.read (Nat.lt_of_lt_of_le (Nat.lt_of_lt_of_le zc3 k4.size) k5.size) (k5.read (Nat.lt_of_lt_of_le zc3 k4.size) (k4.read zc3 (k3.read z2 ry1))));have rx1':=k7.read (Nat.lt_of_lt_of_le (Nat.lt_of_lt_of_le (Nat.lt_of_lt_of_le zb3 k4.size) k5.size) k6.size) (k6.read (Nat.lt_of_lt_of_le (Nat.lt_of_lt_of_le zb3 k4.size) k5.size) (k5.read (Nat.lt_of_lt_of_le zb3 k4.size) (k4.read zb3 (k3.read zb1 (k2.read z1 rx1)))));have hdot:∀ i,i < g.length → -1000000000 ≤ dotL (g.getD i []) y y.length ∧ dotL (g.getD i []) y y.length ≤ 1000000000:=fun i hi => by
    have q:∀ k,k ≤ y.length → -(100000000 * (k:Int)) ≤ dotL (g.getD i []) y k ∧ dotL (g.getD i []) y k ≤ 100000000 * (k:Int):=fun k => by
      induction k with
      | zero => intro _; simp [dotL]
      | succ k ih =>
        intro hk;have h1:=ih (by omega)
        have h2:=b8 i k hi (by omega)
        rw [dotL_succ]; omega
    have:=q y.length (Nat.le_refl _);omega
  have hterm:∀ i,i < g.length → L.getD i 0 = dotL (g.getD i []) y y.length ∧ -1000000000000000 ≤ x.getD i 0 * L.getD i 0 ∧ x.getD i 0 * L.getD i 0 ≤ 1000000000000000:=fun i hi => by
    have h1:=hLv i hi;have h2:=hdot i hi;have h3:=b9 i (by omega)
    rw [← h1] at h2;refine ⟨h1,?_,?_⟩
    · have:=Int.mul_le_mul_of_nonneg_left h2.1 h3.1;have h5:x.getD i 0 * 1000000000 ≤ 1000000 * 1000000000:=Int.mul_le_mul_of_nonneg_right h3.2 (by decide)
      rw [Int.mul_neg] at this;omega
    · have:=Int.mul_le_mul_of_nonneg_left h2.2 h3.1;have h5:x.getD i 0 * 1000000000 ≤ 1000000 * 1000000000:=Int.mul_le_mul_of_nonneg_right h3.2 (by decide)
      omega
  have hpr:∀ k,k ≤ g.length → -(1000000000000000 * (k:Int)) ≤ payS g x y k ∧ payS g x y k ≤ 1000000000000000 * (k:Int):=fun k => by
    induction k with
    | zero => intro _; simp [payS]
    | succ k ih =>
      intro hk;have h1:=ih (by omega)
      have h2:=hterm k (by omega)
      rw [payS_succ,← h2.1]; omega
  have ry06:=k6.read (Nat.lt_of_lt_of_le (Nat.lt_of_lt_of_le zc3 k4.size) k5.size) (k5.read (Nat.lt_of_lt_of_le zc3 k4.size) (k4.read zc3 (k3.read z2 ry0)));have ow7:=(((ow3.keep k4).keep k5).keep k6).keep k7;have sx7:=hx.keep k07;have lo7:=k07.low hL;have hd0:0 < dx * dy:=Int.mul_pos (by omega) (by omega)
  have hd1:dx * dy ≤ 1000000 * 1000000:=Int.mul_le_mul b5.2 b6.2 (by omega) (by decide)
  have hwd:IntKind.i64.wrap (dx * dy) = dx * dy:=IntWalk.i64_in _ (by omega)
  have hpN:=hpr g.length (Nat.le_refl _);obtain ⟨H8,k8,R8⟩:=pratio_runs hS (payS g x y g.length) (dx * dy) H7 lo7 (by omega) hd0 (by omega)
  have f8:=R8.bx;obtain ⟨H9,p9,k9,zz9,ow9,-⟩:=stH infR.1 (k07.trans k8) k02.size (ow7.keep k8) (v:=.agg ⟨[.int .i64 (rat (payS g x y g.length) (dx * dy)).1,.int .i64 (rat (payS g x y g.length) (dx * dy)).2]⟩) (new:=[.int .i64 (rat (payS g x y g.length) (dx * dy)).1,.int .i64 (rat (payS g x y g.length) (dx * dy)).2]) rfl infR.2 rfl rfl;obtain ⟨m9,-,-⟩:=own2 ow9;have hpo:PostPay g x dx y dy H (.tuple ⟨[.agg ⟨[.int .i64 (rat (payS g x y g.length) (dx * dy)).1,.int .i64 (rat (payS g x y g.length) (dx * dy)).2]⟩,.int .i64 0]⟩) H9:=⟨_,_,0,rfl,k9,fun h => absurd hok h,fun _ => ⟨rfl,rfl⟩⟩
  obtain ⟨rt,hrt⟩:∃ rt,rat (payS g x y g.length) (dx * dy) = rt:=⟨_,rfl⟩;rw [hrt] at f8 p9 m9 hpo;clear hg hx hy k1 k2 k3 k02 k03 k4 k04 k5 k05 k6 k06 k7 h1 h2 h3 hgl hgl2 hgw s00 R7 ow3 b1 hLl b7 b7' hLv b8 b9 hdot k07 k8 R8 ow7 ow9 k9 hrt hok
  repeat' (first | simp only [↓Zabr,↓Zabm,↓Zabo,↓Zabq,↓Zaaf,↓Zaag,↓Zabl,↓Zabp,↓Zaci,↓Zach,↓Zacb,↓Zaah,↓Zabz,↓sxDL_pick,↓Zaby,↓sxDL_unOp,↓Zabx,↓sxD_same,↓Zacn,↓Zaaw,↓Zaar,↓Zaaj,↓Zaas,↓Zaai,↓Zaal,↓bxOp_build,↓Zaaq,↓Zaat,↓Zaak,↓bxOp_un,↓Zaan,↓Zaao,↓Zaau,↓Zaap,↓Zack,↓bxPut,↓Zabj,↓Zabk,↓Zabh,↓Zacl,↓Zacm,↓Zaav,↓Zaco,↓Zaba,↓Zaay,↓Zaaz,↓dstAt,↓Zabb,Zacj,una_nt,Zaab,Zabs,Zacc,Zacf,packRes_two,List.map,List.nil_append,List.append_nil,↓reduceIte,Nat.reduceEqDiff,Nat.reduceLT,Zaaa,one1,Option.bind_some,Option.map_some, *,argF,List.getD_cons_zero,List.getD_cons_succ,alR,cells2,Q.ldP,Q.fldP0,lenG,lenI,ldIs,one1] | (with_reducible first | refine Zabu (by assumption) (by decide +kernel) ?_ | refine Zabt (by decide +kernel) ?_ | refine Zaca (by decide +kernel) ?_ | refine Zabv ?_))
  refine sxL_of (fun m ρ X => ∃ k:Nat,m = g.length - k ∧ k ≤ g.length ∧ X = H7 ∧ ρ 4 = .pointer (some ⟨H.size,0,none⟩) ∧ ρ 5 = .pointer (some ⟨H1.size,0,none⟩) ∧ ρ 6 = .pointer (some ⟨H2.size,0,none⟩) ∧ ρ 8 = .int .i64 (payS g x y k) ∧ ρ 34 = .slice a7 L.length c7 ∧ ρ 35 = .int .i64 (L.length:Int) ∧ ρ 36 = .int .i64 (k:Int))
    ⟨0,rfl,Nat.zero_le _,rfl,rfl,rfl,rfl,rfl,rfl,rfl,rfl⟩ ?_
  clear e1 e2 e3 f4 f5 f6 f7 fd4 fd5 fd6 rx3 ry3 rx4 ry4 ry5 ry06 rd00 ix0 rx2 ry2 rx0 ry0 rx1 ry1;rintro m ρ X ⟨k,rfl,hk,rfl,e4,e5,e6,e8,e34,e35,e36⟩
  by_cases hlt:k < g.length
  · have hlt':(k:Int) < (L.length:Int):=by omega
    have hw:IntKind.i64.wrap ((k:Int) + 1) = ((k + 1:Nat):Int):=IntWalk.i64_in _ (by omega)
    have ixl:=SlI_ix s7 (show k < L.length by omega)
    have rdl:=(s7.rdI (show k < L.length by omega)).1
    have ixx:=SlI_ix sx7 (show k < x.length by omega)
    have rdx:=(sx7.rdI (show k < x.length by omega)).1
    have ht:=hterm k hlt;have hp1:=hpr k hk;have hp2:=hpr (k + 1) hlt;have hps:=payS_succ g x y k;rw [← ht.1] at hps;have hw1:IntKind.i64.wrap (x.getD k 0 * L.getD k 0) = x.getD k 0 * L.getD k 0:=IntWalk.i64_in _ (by omega)
    have hw2:IntKind.i64.wrap (payS g x y k + x.getD k 0 * L.getD k 0) = payS g x y (k + 1):=by rw [← hps]; exact IntWalk.i64_in _ (by omega)
    clear s7 sx7 ht hp1 hp2 hps hterm hpr hpo p9 m9 f8 hpN
    repeat' simp only [↓Zabr,↓Zabo,↓Zabq,↓Zaaf,↓Zabl,↓Zabn,↓Zaci,↓Zach,↓Zacn,↓Zaar,↓Zaaj,↓Zaaq,↓Zaak,↓Zaan,↓Zaao,↓bxPut,↓Zabj,↓Zabi,↓Zaae,↓Zaad,↓Zabe,↓Zabd,↓Zaco,↓Zaba,↓Zaay,Zacj,Zaac,Zabc,Zacg,↓reduceIte,Nat.reduceEqDiff,Nat.reduceLT,dec_T,true_and,one1,Option.bind_some, *,ldI,ldIs,Q.fldP0]
    exact ⟨g.length - (k + 1),by omega,k + 1,rfl,by omega,rfl,rfl⟩
  · have hlt':¬ (k:Int) < (L.length:Int):=by omega
    have hke:k = g.length:=by omega
    rw [hke] at e8;clear s7 sx7 hterm hpr hke hk hlt
    repeat' simp only [↓Zabr,↓Zabo,↓Zabq,↓Zaaf,↓Zabl,↓Zabn,↓Zaci,↓Zach,↓Zacn,↓Zaar,↓Zaaj,↓Zaaq,↓Zaak,↓Zaan,↓Zaao,↓bxPut,↓Zabj,↓Zabi,↓Zaae,↓Zaad,↓Zabe,↓Zabd,↓Zaco,↓Zaba,↓Zaay,Zacj,Zaac,Zabc,Zacf,List.map,List.append_nil,↓reduceIte,Nat.reduceEqDiff,Nat.reduceLT,dec_F,one1,Option.bind_some,Option.map_some, *,ldI,Q.fldP1,ldRt]
end Go.Proofs.YtdfjaoncabanbaaGreatDoor
