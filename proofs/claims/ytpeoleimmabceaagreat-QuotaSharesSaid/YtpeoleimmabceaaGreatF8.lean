/- The sums over all orders, by the reference: the recursion. -/
import Derived.Test.YtpeoleimmabceaaGreatF6
set_option linter.unusedVariables false
set_option linter.unusedSimpArgs false
set_option linter.unusedSectionVars false

namespace Go.Proofs.YtpeoleimmabceaaGreat
open Go Go.AM
set_option maxRecDepth 10000

def rstep (c:List Int) (m:Nat) (e:Int) (l:List Nat) (i k:Nat):Int:=(if l.getD k 0 = i then min e (c.getD i 0) * factN m else 0) + RSum c m (e - min e (c.getD (l.getD k 0) 0)) (cutL l k) i
theorem RSum_succ (c:List Int) (m:Nat) (e:Int) (l:List Nat) (i:Nat):RSum c (m + 1) e l i = ((List.range l.length).map fun k => rstep c m e l i k).sum:=rfl
def part (c:List Int) (m:Nat) (e:Int) (l:List Nat) (i k:Nat):Int:=((List.range k).map fun q => rstep c m e l i q).sum
theorem part_succ (c:List Int) (m:Nat) (e:Int) (l:List Nat) (i k:Nat):part c m e l i (k + 1) = part c m e l i k + rstep c m e l i k:=by
  unfold part; rw [List.range_succ,List.map_append,List.sum_append]; simp
theorem rstep_nn {c:List Int} (hp:∀ x ∈ c,0 ≤ x) {m:Nat} {e:Int} {l:List Nat} {i k:Nat} (h8:m < 8) (he:0 ≤ e) (hi:i < c.length) (hl:∀ x ∈ l,x < c.length) (hm:l.length = m + 1) (hk:k < l.length):0 ≤ rstep c m e l i k ∧ 0 ≤ RSum c m (e - min e (c.getD (l.getD k 0) 0)) (cutL l k) i:=by
  have h1:=hp _ (Zabb (d:=0) hi);have h2:=hl _ (Zabb (d:=0) hk);have h3:=hp _ (Zabb (d:=0) h2);have h4:=RSum_nn hp m (e - min e (c.getD (l.getD k 0) 0)) (cutL l k) i h8 (by omega) hi (fun x hx => hl x (cutL_mem hx)) (by have:=cutL_len hk; omega)
  have h5:=(factN_small m (by omega)).1
  unfold rstep;refine ⟨?_,h4⟩;split
  · have:=Int.mul_nonneg (show 0 ≤ min e (c.getD i 0) by omega) (show 0 ≤ factN m by omega)
    omega
  · omega
theorem part_bound {c:List Int} (hp:∀ x ∈ c,0 ≤ x) {m:Nat} {e:Int} {l:List Nat} {i:Nat} (h8:m < 8) (he:0 ≤ e) (hi:i < c.length) (hl:∀ x ∈ l,x < c.length) (hm:l.length = m + 1):∀ {k:Nat},k ≤ l.length → 0 ≤ part c m e l i k ∧ part c m e l i k ≤ RSum c (m + 1) e l i:=by
  intro k hk;have h1:∀ j,j < l.length → 0 ≤ rstep c m e l i j:=fun j hj => (rstep_nn hp h8 he hi hl hm hj).1
  rw [RSum_succ];unfold part;refine ⟨sum_nonneg fun x hx => ?_,?_⟩
  · obtain ⟨j,hj,rfl⟩:=List.mem_map.1 hx;exact h1 j (by have:=List.mem_range.1 hj; omega)
  · obtain ⟨d,hd⟩:∃ d,l.length = k + d:=⟨l.length - k,by omega⟩
    rw [hd,List.range_add,List.map_append,List.sum_append]
    have:=sum_nonneg (l:=((List.range d).map fun x => k + x).map fun q => rstep c m e l i q) (fun x hx => by
      obtain ⟨y,hy,rfl⟩:=List.mem_map.1 hx;obtain ⟨z,hz,rfl⟩:=List.mem_map.1 hy
      exact h1 _ (by have:=List.mem_range.1 hz; omega))
    omega
theorem factN_succ (n:Nat):factN (n + 1) = ((n + 1:Nat):Int) * factN n:=rfl
theorem okI1:ElemOk Tryz.prog #[22,22] 3 (intE .i64).sz:=okI
theorem R64c (l:List Nat) (h:∀ x ∈ l,x < 1000):∀ z ∈ castN l,IntKind.i64.min ≤ z ∧ z ≤ IntKind.i64.max:=fun z hz => by
  unfold castN at hz;obtain ⟨x,hx,rfl⟩:=List.mem_map.1 hz;have:=h x hx;have m1:IntKind.i64.min = -9223372036854775808:=by decide
  have m2:IntKind.i64.max = 9223372036854775807:=by decide
  rw [m1,m2]; omega

theorem storeIX {H:Heap} {r:Nat} {w:List Int} (ow:Own H r 3 (w.map fun z => .int .i64 z)) (z:Int) {o:Nat} (ho:o < w.length) :
    ∃ H2,aStore Tryz.prog H 3 (.pointer (some ⟨r,o,none⟩)) (.int .i64 z) = some H2 ∧ Own H2 r 3 ((w.set o z).map fun z => .int .i64 z) ∧ KeepX r H H2:=by
  obtain ⟨i,hi,hs⟩:=infI1;obtain ⟨H2,h1,h2,h3,_⟩:=ow.storeX (t:=3) hi (v:=.int .i64 z) (new:=[.int .i64 z]) rfl (hs.trans rfl) rfl (o:=o) (by rw [List.length_map]; exact ho)
  rw [splice_map ho] at h2;exact ⟨H2,h1,h2,h3⟩
theorem own_grow {L:Nat} {H H2:Heap} {r:Nat} {e:TypeId} {cells:List Value} (h:Own H r e cells) (k:Grow L H H2):Own H2 r e cells:=⟨(k.ge.row r _ (Nat.zero_le _) h.lt h.get).1,Nat.lt_of_lt_of_le h.lt k.ge.size⟩
theorem cutL_cast (l:List Nat) (k:Nat):(castN l).take k ++ (castN l).drop (k + 1) = castN (cutL l k):=by
  unfold castN cutL;rw [List.map_append,List.map_take,List.map_drop]

variable {S:AM.Sys} (hS:Only S 5)
include hS

set_option maxHeartbeats 8000000 in
theorem rRun_runs (c:List Int) (va:Option Addr) (vc r1 o1 nr:Nat) (h7:c.length ≤ 7) (hc:∀ x ∈ c,0 ≤ x ∧ x ≤ 100000) :
    ∀ (m:Nat) (left:List Nat) (e:Int) (sums:List Int) (v2:Value) (L:Nat) (H:Heap),left.length = m → m < 8 → (∀ x ∈ left,x < c.length) → LstG (intE .i64) 3 L H v2 (castN left) → nr < L → SlI .i64 H (.slice va c.length vc) c r1 o1 → (0 < c.length → r1 ≠ nr) → Own H nr 3 (sums.map fun z => .int .i64 z) →
      sums.length = c.length → Grp H → H.low ≤ H.size → (0 ≤ e ∧ e ≤ 100000) → (∀ i,i < c.length → 0 ≤ sums.getD i 0 ∧ sums.getD i 0 + RSum c m e left i ≤ BB) →
      ∃ (H':Heap) (sums':List Int),Runs Tryz.prog S (.fn 33) [.int .i64 e,.slice va c.length vc,v2,.slice (some ⟨nr,0,none⟩) c.length c.length] H (packRes []) H' ∧ KeepX nr H H' ∧ Own H' nr 3 (sums'.map fun z => .int .i64 z) ∧ sums'.length = c.length ∧ ∀ i,i < c.length → sums'.getD i 0 = sums.getD i 0 + RSum c m e left i:=by
  intro m
  induction m with
  | zero =>
    intro left e sums v2 L H hm h8 hlt hlst hL h1 hne ho hsl hg hLo he hb;have hln:left = []:=List.length_eq_zero_iff.1 hm;subst hln;have hv:v2 = .slice none 0 0:=by
      rcases hlst with ⟨_,h⟩ | ⟨_,_,_,_,_,_,_,_,h,_⟩
      · exact h
      · exact absurd h (Nat.lt_irrefl 0)
    subst hv
    suffices h:WCall Tryz.prog S (.fn 33) [.int .i64 e,.slice va c.length vc,.slice none 0 0,.slice (some ⟨nr,0,none⟩) c.length c.length] H (fun v H' => v = packRes [] ∧ H' = H) by
      obtain ⟨_,_,hr,rfl,rfl⟩:=h;exact ⟨_,sums,hr,KeepX.refl _ _,ho,hsl,fun i _ => by unfold RSum; omega⟩
    have d0:decide (((0:Nat):Int) = 0) = true:=rfl;refine Zaaw Tryz.func33 rfl (Nat.le_of_ble_eq_true rfl) (hS.no rfl _ _) ?_
    rw [Tryz.ntmps33,Tryz.results33];clear hb he hlst h1 ho hlt hm
    repeat' (first | simp only [↓Zabs,↓Zabp,↓Zabr,↓Zaae,↓Zaaf,↓Zabm,↓Zabq,↓Zacj,↓Zaci,↓Zaco,↓Zaaq,↓Zaaj,↓Zaak,↓Zaao,↓bxPut,↓Zabk,↓Zabl,↓Zabi,↓Zacm,↓Zacp,↓Zaba,↓Zaay,Zack,Zaab,Zabd,Zach,↓reduceIte,Nat.reduceLT,and_self, *,argF,List.getD_cons_zero,List.getD_cons_succ,lenI])
  | succ m ih =>
    intro left e sums v2 L H hm h8 hlt hlst hL h1 hne ho hsl hg hLo he hb;have hv:∃ b,v2 = .slice b left.length left.length:=by
      rcases hlst with ⟨h,_⟩ | ⟨b,r,cells,_,_,_,_,h,_⟩
      · have:=congrArg List.length h; rw [castN_len] at this; rw [hm] at this; cases this
      · rw [castN_len] at h; exact ⟨_,h⟩
    obtain ⟨vb,rfl⟩:=hv
    suffices h:WCall Tryz.prog S (.fn 33) [.int .i64 e,.slice va c.length vc,.slice vb left.length left.length,.slice (some ⟨nr,0,none⟩) c.length c.length] H (fun v H' => v = packRes [] ∧ ∃ sums':List Int,KeepX nr H H' ∧ Own H' nr 3 (sums'.map fun z => .int .i64 z) ∧ sums'.length = c.length ∧ ∀ i,i < c.length → sums'.getD i 0 = sums.getD i 0 + RSum c (m + 1) e left i) by
      obtain ⟨_,H',hr,rfl,s',h1,h2,h3,h4⟩:=h;exact ⟨H',s',hr,h1,h2,h3,h4⟩
    have d0:decide ((left.length:Int) = 0) = false:=decide_eq_false (by omega)
    have h8':m < 8:=by omega
    have hmA:left.length ≤ m + 1:=by omega
    have hmB:m + 1 ≤ left.length:=by omega
    clear hm;refine Zaaw Tryz.func33 rfl (Nat.le_of_ble_eq_true rfl) (hS.no rfl _ _) ?_
    rw [Tryz.ntmps33,Tryz.results33]
    repeat' (first | simp only [↓Zabs,↓Zabp,↓Zabr,↓Zaae,↓Zaaf,↓Zabm,↓Zabq,↓Zacj,↓Zaci,↓Zaco,↓Zaaq,↓Zaaj,↓Zaak,↓Zaao,↓bxPut,↓Zabk,↓Zabl,↓Zabi,↓Zacm,↓Zacp,↓Zaba,↓Zaay,Zack,Zaab,Zabd,Zacg,↓reduceIte,Nat.reduceLT, *,argF,List.getD_cons_zero,List.getD_cons_succ,lenI])
    refine sxL_of (fun q ρ X => ∃ k:Nat,q = left.length - k ∧ 2 ≤ k ∧ X = H ∧ ρ 0 = .int .i64 e ∧ ρ 1 = .slice va c.length vc ∧ ρ 2 = .slice vb left.length left.length ∧ ρ 3 = .slice (some ⟨nr,0,none⟩) c.length c.length ∧ ρ 8 = .int .i64 (factN (k - 1)) ∧ ρ 9 = .int .i64 (k:Int) ∧ (k = 2 ∨ k ≤ left.length))
      ⟨2,rfl,Nat.le_refl _,rfl,rfl,rfl,rfl,rfl,rfl,rfl,.inl rfl⟩ ?_
    clear d0;rintro q ρ X ⟨k,rfl,hk2,rfl,e0,e1,e2,e3,e8,e9,hkl⟩
    by_cases hlk:k < left.length
    · have hlk':(k:Int) < (left.length:Int):=by omega
      have hw:=IntWalk.i64_in ((k:Int) + 1) (by omega)
      have hf:=(factN_small (k - 1) (by omega))
      have hfk:factN (k - 1) * (k:Int) = factN (k + 1 - 1):=by
        obtain ⟨j,rfl⟩:∃ j,k = j + 1:=⟨k - 1,by omega⟩
        rw [Nat.add_sub_cancel,Nat.add_sub_cancel,factN_succ,Int.mul_comm]
      have hf2:=factN_small (k + 1 - 1) (by omega)
      have hw2:IntKind.i64.wrap (factN (k - 1) * (k:Int)) = factN (k + 1 - 1):=by rw [hfk]; exact IntWalk.i64_in _ (by omega)
      have hw3:IntKind.i64.wrap ((k:Int) + 1) = ((k + 1:Nat):Int):=by rw [hw]; rfl
      clear hw hf hf2 hfk hb he hlst h1 ho hlt ih
      repeat' (first | simp only [↓Zabs,↓Zabp,↓Zabr,↓Zaae,↓Zabm,↓Zabo,↓Zacj,↓Zaci,↓Zaco,↓Zaaq,↓Zaaj,↓Zaak,↓Zaao,↓bxPut,↓Zabk,↓Zabj,↓Zaad,↓Zaac,↓Zabf,↓Zabe,↓Zacp,↓Zaba,↓Zaay,Zack,Zaab,Zabd,Zach,↓reduceIte,Nat.reduceEqDiff,Nat.reduceLT,dec_T,true_and, *,lenI])
      exact ⟨left.length - (k + 1),by omega,k + 1,rfl,by omega,rfl,rfl,.inr (by omega)⟩
    have hlk':¬ (k:Int) < (left.length:Int):=by omega
    have hfe:factN (k - 1) = factN m:=by
      rcases hkl with rfl | hkl
      · have:m = 0 ∨ m = 1:=by omega
        rcases this with rfl | rfl <;> rfl
      · rw [show k - 1 = m by omega]
    rw [hfe] at e8;clear hfe hkl hlk hk2
    repeat' (first | simp only [↓Zabs,↓Zabp,↓Zabr,↓Zaae,↓Zabm,↓Zabo,↓Zacj,↓Zaci,↓Zaco,↓Zaaq,↓Zaaj,↓Zaak,↓Zaao,↓bxPut,↓Zabk,↓Zabj,↓Zaad,↓Zaac,↓Zabf,↓Zabe,↓Zacp,↓Zaba,↓Zaay,Zack,Zaab,Zabd,Zacg,↓reduceIte,Nat.reduceEqDiff,Nat.reduceLT,dec_F, *,lenI])
    clear e9 hlk';refine sxL_of (fun q ρ Y => ∃ (k:Nat) (su:List Int),q = left.length - k ∧ k ≤ left.length ∧ KeepX nr X Y ∧ Own Y nr 3 (su.map fun z => .int .i64 z) ∧ su.length = c.length ∧ (∀ i,i < c.length → su.getD i 0 = sums.getD i 0 + part c m e left i k) ∧ ρ 0 = .int .i64 e ∧ ρ 1 = .slice va c.length vc ∧ ρ 2 = .slice vb left.length left.length ∧ ρ 3 = .slice (some ⟨nr,0,none⟩) c.length c.length ∧ ρ 8 = .int .i64 (factN m) ∧ ρ 10 = .int .i64 (k:Int))
      ⟨0,sums,rfl,Nat.zero_le _,KeepX.refl _ _,ho,hsl,fun i _ => by unfold part; simp,e0,e1,e2,e3,e8,rfl⟩ ?_
    clear e0 e1 e2 e3 e8 ρ;rintro q ρ Y ⟨k,su,rfl,hk,kY,oY,hsu,hpt,e0,e1,e2,e3,e8,e10⟩;have hLY:=kY.low hLo;have gY:=kY.grp hg
    by_cases hlk:k < left.length
    case neg =>
      have hlk':¬ (k:Int) < (left.length:Int):=by omega
      have hke:k = left.length:=Nat.le_antisymm hk (Nat.not_lt.1 hlk);have hpost:∃ sums':List Int,KeepX nr X Y ∧ Own Y nr 3 (sums'.map fun z => .int .i64 z) ∧ sums'.length = c.length ∧ ∀ i,i < c.length → sums'.getD i 0 = sums.getD i 0 + RSum c (m + 1) e left i:=⟨su,kY,oY,hsu,fun i hi => by rw [hpt i hi,hke]; rfl⟩
      clear hke hlk hpt kY oY hsu ih hb hlst h1 ho hsl hg gY
      repeat' (first | simp only [↓Zabs,↓Zabp,↓Zabr,↓Zaae,↓Zabm,↓Zabo,↓Zacj,↓Zaci,↓Zaco,↓Zaaq,↓Zaaj,↓Zaap,↓Zaas,↓Zaak,↓bxOp_slice,↓Zaan,↓Zaat,↓Zaao,↓Zaai,↓bxOp_min,↓Zacl,↓bxPut,↓Zabk,↓Zabj,↓Zaad,↓Zaac,↓Zabf,↓Zabe,↓resQ_normal,↓Zacm,↓Zacp,↓Zaba,↓Zaay,↓Zaaz,Zack,Zaab,Zabd,Zabt,Zacg,List.nil_append,↓reduceIte,Nat.reduceEqDiff,Nat.reduceLT,dec_F,and_self,Option.map_some,Option.map_none, *,lenI])
    have hm:left.length = m + 1:=by omega
    have hlk':(k:Int) < (left.length:Int):=by omega
    have hwk:IntKind.i64.wrap ((k:Int) + 1) = ((k + 1:Nat):Int):=IntWalk.i64_in _ (by omega)
    have lst2:=lst_keepX hlst kY hL;have hml:(castN left).length ≤ Go.maxLen:=by rw [castN_len]; have:Go.maxLen = 9223372036854775807:=rfl; omega
    have hob:=lst2.sl hml;obtain ⟨r2,sl2,_⟩:=hob;rw [show (Value.slice vb left.length left.length) = .slice vb (castN left).length left.length by rw [castN_len]] at sl2
    have ixl:=SlI_ix sl2 (k:=k) (by rw [castN_len]; exact hlk)
    have rdl:=(sl2.rdI (i:=k) (by rw [castN_len]; exact hlk)).1
    rw [castN_getD] at rdl;rw [castN_len] at ixl;have hjg:∃ j,j = left.getD k 0:=⟨_,rfl⟩;obtain ⟨j,hj⟩:=hjg;have hjn:j < c.length:=by rw [hj]; exact hlt _ (Zabb hlk)
    rw [← hj] at rdl;have h1Y:=sl_keepX h1 kY hne;have ixc:=SlI_ix h1Y hjn;have rdc:=(h1Y.rdI hjn).1;have rds:=ownI_rd oY (k:=j) (by omega)
    have ixs:aIndexAt Tryz.prog 22 (.slice (some ⟨nr,0,none⟩) c.length c.length) (.int .i64 (j:Int)) = some (.pointer (some ⟨nr,j,none⟩)):=by
      rw [ixI,if_pos ⟨by omega,by omega⟩,Int.toNat_natCast,Nat.mul_one,Nat.zero_add]
    have hcj:=hc _ (Zabb (d:=0) hjn);have htg:∃ t,t = min e (c.getD j 0):=⟨_,rfl⟩;obtain ⟨t,ht⟩:=htg;have ht0:0 ≤ t ∧ t ≤ 100000 ∧ t ≤ e:=by omega
    have hmn:(if c.getD j 0 < e then c.getD j 0 else e) = t:=by rw [ht]; split <;> omega
    have hfm:=factN_small m h8';have htm:0 ≤ t * factN m ∧ t * factN m ≤ 504000000:=by
      refine ⟨Int.mul_nonneg ht0.1 (by omega),?_⟩
      have:t * factN m ≤ 100000 * factN m:=Int.mul_le_mul_of_nonneg_right (by omega) (by omega)
      omega
    have hp0:∀ x ∈ c,0 ≤ x:=fun x hx => (hc x hx).1
    have hbd:∀ i,i < c.length → 0 ≤ part c m e left i k ∧ part c m e left i (k + 1) ≤ RSum c (m + 1) e left i:=fun i hi => ⟨(part_bound hp0 h8' he.1 hi hlt hm hk).1,(part_bound hp0 h8' he.1 hi hlt hm (k:=k + 1) (by omega)).2⟩
    have hsj:=hpt j hjn;have hbj:=hb j hjn;have hbdj:=hbd j hjn;have hstep:∀ i,part c m e left i (k + 1) = part c m e left i k + ((if j = i then min e (c.getD i 0) * factN m else 0) + RSum c m (e - t) (cutL left k) i):=fun i => by
      rw [part_succ]; unfold rstep; rw [← hj,← ht]
    have hrn:∀ i,i < c.length → 0 ≤ RSum c m (e - t) (cutL left k) i:=fun i hi => by
      have:=(rstep_nn hp0 h8' he.1 hi hlt hm hlk).2;rw [← hj,← ht] at this; exact this
    have hBB:BB = 1000000000000:=rfl;have hst:=hstep j;rw [if_pos rfl,← ht] at hst;have hrj:=hrn j hjn;have hw1:=IntWalk.i64_in (t * factN m) (by omega)
    have hw2:=IntWalk.i64_in (su.getD j 0 + t * factN m) (by omega)
    have hw3:=IntWalk.i64_in (e - t) (by omega)
    have hob:=storeIX oY (su.getD j 0 + t * factN m) (o:=j) (by omega)
    obtain ⟨H2,st2,o2,x2⟩:=hob;have gl2:=lst_keepX lst2 x2 hL;have hr64:=R64c left (fun x hx => by have:=hlt x hx; omega)
    have hkl:k < (castN left).length:=by rw [castN_len]; exact hlk
    have hob:=lst_parts gl2 hkl;obtain ⟨x,_,asx,lnx,fsx,_⟩:=hob;have g2:=x2.grp gY;have lo2:=x2.low hLY;have hob:=(LstG.nil (E:=intE .i64) (e:=3) (L:=H2.size) (H:=H2)).put (P:=Tryz.prog) (ts:=#[22,22]) okI1 (stable_int _ 0) g2 (Nat.le_refl _) lnx fsx (ys:=(castN left).take k) (by rw [List.length_take]; omega) (ones_ivs _) (chunks_ivs fun z hz => hr64 z (List.mem_of_mem_take hz)) (by simp; omega)
    obtain ⟨v3,H3,ap3,l3,gr3⟩:=hob;rw [List.nil_append] at l3;have x3:=(KeepX.refl nr H2).grow gr3 (Nat.le_refl _) (Nat.le_of_lt o2.lt);have o3:=own_grow o2 gr3;have gl3:=lst_keepX gl2 x3 hL;have hob:=lst_parts gl3 hkl;obtain ⟨_,y,_,_,_,asy,lny,fsy⟩:=hob;have g3:=gr3.grp g2;have lo3:=gr3.low lo2;have hob:=l3.put (P:=Tryz.prog) (ts:=#[22,22]) okI1 (stable_int _ 0) g3 gr3.ge.size lny fsy (ys:=(castN left).drop (k + 1)) (by rw [List.length_drop]) (ones_ivs _) (chunks_ivs fun z hz => hr64 z (List.mem_of_mem_drop hz)) (by rw [List.length_take,castN_len]; omega)
    obtain ⟨v4,H4,ap4,l4,gr4⟩:=hob;rw [cutL_cast] at l4;have x24:=x3.grow gr4 (Nat.le_refl _) (Nat.le_of_lt o2.lt);have o4:=own_grow o3 gr4;have g4:=gr4.grp g3;have lo4:=gr4.low lo3;have h14:=sl_keepX h1Y (x2.trans x24) hne;have hcl:=cutL_len hlk;have hsg:∃ s2,s2 = su.set j (su.getD j 0 + t * factN m):=⟨_,rfl⟩;obtain ⟨s2,hs2⟩:=hsg;have hs2l:s2.length = c.length:=by rw [hs2,List.length_set,hsu]
    have hs2at:∀ i,i < c.length → s2.getD i 0 = su.getD i 0 + (if j = i then min e (c.getD i 0) * factN m else 0):=fun i hi => by
      rw [hs2]
      by_cases hij:i = j
      · subst hij;rw [setAt_same (by omega),if_pos rfl,← ht]
      · rw [setAt_other hij,if_neg (fun h => hij h.symm),Int.add_zero]
    rw [← hs2] at o4;have hs2nn:∀ i,i < c.length → 0 ≤ s2.getD i 0 ∧ s2.getD i 0 + RSum c m (e - t) (cutL left k) i ≤ BB:=fun i hi => by
      have a1:=hs2at i hi;have a2:=hpt i hi;have a3:=hb i hi;have a4:=hbd i hi;have a5:=hstep i;have a6:=hrn i hi;have a7:0 ≤ (if j = i then min e (c.getD i 0) * factN m else 0):=by
        have:=(hc _ (Zabb (d:=0) hi)).1;split
        · exact Int.mul_nonneg (by omega) (by omega)
        · exact Int.le_refl _
      omega
    have hob:=ih (cutL left k) (e - t) s2 v4 H2.size H4 (by omega) (by omega) (fun x hx => hlt x (cutL_mem hx)) l4 o2.lt h14 hne o4 hs2l g4 lo4 (by omega) hs2nn
    obtain ⟨H5,s5,R5,x5,o5,l5,p5⟩:=hob;have f5:=R5.bx;have kY5:=((kY.trans x2).trans x24).trans x5;have hpt5:∀ i,i < c.length → s5.getD i 0 = sums.getD i 0 + part c m e left i (k + 1):=fun i hi => by
      rw [p5 i hi,hs2at i hi,hpt i hi,hstep i]; omega
    clear ih hlt hne hsl hb hlst h1 ho hsu hpt kY oY hlk hm lst2 sl2 hj hjn h1Y hcj ht hfm htm hp0 hbd hsj hbj hbdj hstep hrn hst hrj o2 x2 gl2 hr64 hkl lnx fsx g2 lo2 l3 gr3 x3 o3 gl3 lny fsy g3 lo3 l4 gr4 x24 o4 g4 lo4 h14 hcl hs2 hs2l hs2at hs2nn R5 x5 p5 hg hc gY hBB
    repeat' (first | simp only [↓Zabs,↓Zabp,↓Zabr,↓Zaae,↓Zabm,↓Zabo,↓Zacj,↓Zaci,↓Zaco,↓Zaaq,↓Zaaj,↓Zaap,↓Zaas,↓Zaak,↓bxOp_slice,↓Zaan,↓Zaat,↓Zaao,↓Zaai,↓bxOp_min,↓Zacl,↓bxPut,↓Zabk,↓Zabj,↓Zaad,↓Zaac,↓Zabf,↓Zabe,↓resQ_normal,↓Zacm,↓Zacp,↓Zaba,↓Zaay,↓Zaaz,aSliceH_slice,Zack,mm_min,Zaab,Zabd,Zabt,Zach,List.map_cons,List.map_nil,List.nil_append,List.append_nil,↓reduceIte,Nat.reduceEqDiff,Nat.reduceLT,dec_T,true_and,one1,Option.bind_some,Option.map_some,Option.map_none, *,lenI,ldI,one1,mm_min])
    exact ⟨left.length - (k + 1),by omega,k + 1,s5,rfl,by omega,o5,l5,hpt5,rfl⟩
end Go.Proofs.YtpeoleimmabceaaGreat
