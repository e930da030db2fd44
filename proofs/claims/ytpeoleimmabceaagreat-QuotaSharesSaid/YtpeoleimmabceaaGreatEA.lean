/- Share and Is, by the program. -/
import Derived.Test.YtpeoleimmabceaaGreatE9
set_option linter.unusedVariables false
set_option linter.unusedSimpArgs false
set_option linter.unusedSectionVars false

namespace Go.Proofs.YtpeoleimmabceaaGreat
open Go Go.AM
set_option maxRecDepth 10000

def PostSh (R:Int → List Int → List Int → Int → Prop) (H:Heap) (rule e:Int) (c:List Int) (u:Value) (H':Heap):Prop:=
  ∃ a n cp z f,u = .tuple ⟨[.agg ⟨[.slice a n cp,.int .i64 z]⟩,.int .i64 f]⟩ ∧ Keep H H' ∧ (¬ (Q.Prob e c ∧ isRule rule) → f = 2 ∧ n = 0 ∧ z = 0) ∧
    (Q.Prob e c ∧ isRule rule → f = 0 ∧ ∃ w,n = w.length ∧ Q.Shr e c w z ∧ Awd R rule e c w z ∧ PV H H' (.agg ⟨[.slice a n cp,.int .i64 z]⟩) w z ∧ ∃ rr,Value.slice a n cp = .slice (some ⟨rr,0,none⟩) w.length w.length ∧ H.size ≤ rr ∧ Own H' rr 3 (w.map fun z => .int .i64 z))
def ScR (R:Int → List Int → List Int → Int → Prop):Prop:=∀ {e c g w d w' d'},Sc g w d w' d' → w'.length = c.length → R e c w d → R e c w' d'
theorem good_shr {e:Int} {c w:List Int} {d:Int} (h:Good e c w d) (hg:Q.gcdAll d w = 1):Q.Shr e c w d:=⟨h.len,⟨h.d1,h.d2⟩,fun i hi => h.rng i (by rw [← h.len]; exact hi),h.sum,hg⟩

variable {S:AM.Sys} (hS:Only S 5)
include hS

set_option maxHeartbeats 4000000 in
theorem Share_runs (R:Int → List Int → List Int → Int → Prop) (hR:ScR R) (rule e:Int) (v:Value) (c:List Int) (r o:Nat) (H:Heap) (hg:Grp H) (hL:H.low ≤ H.size) (hl:SlI .i64 H v c r o)
    (hrun:Q.Prob e c → RunOk S R rule e v c H) :
    ∃ u H',Runs Tryz.prog S (.fn 7) [.int .i64 rule,.int .i64 e,v] H u H' ∧ PostSh R H rule e c u H':=by
  suffices h:WCall Tryz.prog S (.fn 7) [.int .i64 rule,.int .i64 e,v] H (fun u H' => PostSh R H rule e c u H') by
    obtain ⟨u,H',hr,h⟩:=h; exact ⟨u,H',hr,h⟩
  obtain ⟨va,vc,rfl⟩:=hl.v0;obtain ⟨H1,e1,k1,s1,-,-⟩:=box1 H [.slice none 0 0,.int .i64 0] 26;have ow1:Own H1 H.size 26 [.slice none 0 0,.int .i64 0]:=e1 ▸ Own.new H _ _;have al1:aAlloc Tryz.prog H 26 = some (.pointer (some ⟨H.size,0,none⟩),H1):=by rw [alP,e1]
  obtain ⟨H2,k2,hR2⟩:=Q.isProblem_runs hS e _ c r o H1 (hl.keep k1);have f2:=hR2.bx;have K2:=k1.trans k2;clear hR2
  by_cases hp:Q.Prob e c
  case neg =>
    have d0:decide (Q.Prob e c) = false:=decide_eq_false hp;obtain ⟨H3,st3,o3,z3,x3,k03⟩:=stPX (ow1.keep k2) rfl none 0 0 0 K2 (Nat.le_refl _);have rd3:=(ownP o3).1;have hpo:PostSh R H rule e c (.tuple ⟨[.agg ⟨[.slice none 0 0,.int .i64 0]⟩,.int .i64 2]⟩) H3:=⟨none,0,0,0,2,rfl,k03,fun _ => ⟨rfl,rfl,rfl⟩,fun h => absurd h.1 hp⟩
    clear hl ow1 hrun hp o3 z3 x3 k03;refine Zaaw Tryz.func7 rfl (Nat.le_of_ble_eq_true rfl) (hS.no rfl _ _) ?_
    rw [Tryz.ntmps7,Tryz.results7]
    repeat' (first | simp only [↓Zabs,↓Zabp,↓Zabr,↓Zaae,↓Zabq,↓Zacj,↓Zaci,↓Zaco,↓Zaaq,↓Zaaj,↓Zaah,↓bxOp_build,↓Zaap,↓Zaas,↓bxOp_un,↓bxOp_extract,↓Zaat,↓Zacl,↓bxPut,↓Zabk,↓Zabl,↓Zabi,↓Zacm,↓Zacn,↓Zaau,↓Zacp,↓Zaba,↓Zaay,↓Zaaz,Zack,una_nf,Zabt,Zach,packRes_two,List.map_cons,List.map_nil,List.nil_append,List.append_nil,↓reduceIte,Nat.reduceEqDiff,Nat.reduceLT,Option.map_some, *,argF,List.getD_cons_zero,List.getD_cons_succ,ldP,bdP0])
  have d0:decide (Q.Prob e c) = true:=decide_eq_true hp;have hc:=hp.2.2.1;have h7:=hp.2.1;have hrun':RunOk S R rule e (.slice va c.length vc) c H2:=fun h4 H3 k3 => hrun hp h4 H3 (K2.trans k3)
  obtain ⟨u3,H3,hR3,a,n,cp,z,b,rfl,k3,hb,hbt⟩:=divided_runs hS R rule e _ c r o H2 (K2.grp hg) (K2.low hL) (hl.keep K2) (by omega) (by omega) hc hp.1 hp.2.2.2 hrun'
  have f3:=hR3.bx;have K3:=K2.trans k3;obtain ⟨H4,e4,k4,s4,-,-⟩:=box1 H3 [.slice none 0 0,.int .i64 0] 26;have ow4:Own H4 H3.size 26 [.slice none 0 0,.int .i64 0]:=e4 ▸ Own.new H3 _ _;have al4:aAlloc Tryz.prog H3 26 = some (.pointer (some ⟨H3.size,0,none⟩),H4):=by rw [alP,e4]
  obtain ⟨H5,st5,o5,z5,x5,k35⟩:=stPX ow4 rfl a n cp z k4 (Nat.le_refl _);have K5:=K3.trans k35;have rd5:=(ownP o5).1;have ex0:∀ x y:Value,aExtract (.tuple ⟨[x,y]⟩) 0 = some x:=fun x y => by kernel_rfl
  have ex1:∀ x y:Value,aExtract (.tuple ⟨[x,y]⟩) 1 = some y:=fun x y => by kernel_rfl
  have ow15:=((ow1.keep k2).keep k3).keep k35
  by_cases hr:isRule rule
  case neg =>
    have hbf:b = false:=by cases b with
      | false => rfl
      | true => exact absurd (hb.1 rfl) hr
    subst hbf;obtain ⟨H6,st6,o6,z6,x6,k06⟩:=stPX ow15 rfl none 0 0 0 K5 (Nat.le_refl _);have rd6:=(ownP o6).1;have hpo:PostSh R H rule e c (.tuple ⟨[.agg ⟨[.slice none 0 0,.int .i64 0]⟩,.int .i64 2]⟩) H6:=⟨none,0,0,0,2,rfl,k06,fun _ => ⟨rfl,rfl,rfl⟩,fun h => absurd h.2 hr⟩
    clear hl ow1 hrun hrun' hp o5 o6 z5 z6 x5 x6 hb hbt hR3 hr ow4 ow15 e1 e4 hc h7;refine Zaaw Tryz.func7 rfl (Nat.le_of_ble_eq_true rfl) (hS.no rfl _ _) ?_
    rw [Tryz.ntmps7,Tryz.results7]
    repeat' (first | simp only [↓Zabs,↓Zabp,↓Zabr,↓Zaae,↓Zabq,↓Zacj,↓Zaci,↓Zaco,↓Zaaq,↓Zaaj,↓Zaah,↓bxOp_build,↓Zaap,↓Zaas,↓bxOp_un,↓bxOp_extract,↓Zaat,↓Zacl,↓bxPut,↓Zabk,↓Zabl,↓Zabi,↓Zacm,↓Zacn,↓Zaau,↓Zacp,↓Zaba,↓Zaay,↓Zaaz,Zack,una_nt,una_nf,Zabt,Zach,Zacg,packRes_two,List.map_cons,List.map_nil,List.nil_append,List.append_nil,↓reduceIte,Nat.reduceEqDiff,Nat.reduceLT,Option.map_some, *,argF,List.getD_cons_zero,List.getD_cons_succ,ldP,bdP0])
  obtain rfl:=hb.2 hr;obtain ⟨w,d,hgd,haw,hpv⟩:=hbt rfl;obtain ⟨v',r',hv',sv,hr'⟩:=hpv;cases hv';have sv5:=sv.keep k35;have hw0:∀ x ∈ w,0 ≤ x:=all_of (d:=0) fun i hi => (hgd.rng i (by rw [← hgd.len]; exact hi)).1
  obtain ⟨hsc,hg1⟩:=sc_low (d:=z) hw0 (by have:=hgd.d1; omega)
  have hnw:n = w.length:=by obtain ⟨a1,c1,e',_⟩:=sv.isv; cases e'; rfl
  obtain ⟨H6,v6,r6,k6,_,sl6,hr6,hv6e,ow6,hR6⟩:=qlow_runs hS _ w z r' 0 H5 (K5.grp hg) (K5.low hL) sv5 hw0 (by have:=hgd.len; omega) (by have:=hgd.d1; have:=hgd.d2; omega)
  have f6:=hR6.bx;have hv6:=sl6.v0;obtain ⟨a6,c6,rfl⟩:=hv6;have hgd2:=hsc.good hgd;have haw2:=hsc.awd (fun h1 h2 h3 => hR h1 h2 h3) hgd2.len haw
  have K6:=K5.trans k6;obtain ⟨w2,hw2⟩:∃ w2,w2 = w.map fun x => x / Q.gcdAll z w:=⟨_,rfl⟩
  obtain ⟨d2,hd2⟩:∃ d2,d2 = z / Q.gcdAll z w:=⟨_,rfl⟩;have hwl2:w2.length = w.length:=by rw [hw2]; simp
  rw [← hwl2] at hv6e;rw [← hw2] at hgd2 haw2 sl6 hg1 hsc f6 ow6 hv6e;rw [← hd2] at hgd2 haw2 hg1 hsc f6;have hpv6:PV H5 H6 (.agg ⟨[.slice a6 w2.length c6,.int .i64 d2]⟩) w2 d2:=⟨_,_,rfl,sl6,hr6⟩;obtain ⟨H7,st7,o7,z7,x7,k07⟩:=stPX (ow15.keep k6) rfl a6 w2.length c6 d2 K6 (Nat.le_refl _);have rd7:=(ownP o7).1;have hpv7:=(hpv6.x (Nat.lt_of_lt_of_le s1 (k2.trans (k3.trans k35)).size) x7).low (H0:=H) K5.size;have hz6:=Nat.lt_of_lt_of_le s1 (k2.trans (k3.trans k35)).size;have ow7':Own H7 r6 3 (w2.map fun z => .int .i64 z):=⟨(x7.row r6 _ (by omega) ow6.lt ow6.get).1,Nat.lt_of_lt_of_le ow6.lt x7.size⟩
  have hpo:PostSh R H rule e c (.tuple ⟨[.agg ⟨[.slice a6 w2.length c6,.int .i64 d2]⟩,.int .i64 0]⟩) H7:=⟨_,_,_,_,0,rfl,k07,fun h => absurd ⟨hp,hr⟩ h,fun _ => ⟨rfl,w2,rfl,good_shr hgd2 hg1,haw2,hpv7,r6,hv6e,Nat.le_trans K5.size hr6,ow7'⟩⟩
  clear hl ow1 hrun hrun' hp o5 o7 z5 z7 x5 x7 hb hbt hR3 hr ow4 ow15 hpv6 hpv7 hgd hgd2 haw haw2 sv sv5 sl6 hw0 hsc hg1 hw2 hd2 hnw hR6 e1 e4 hc h7 hv6e ow6 ow7' hz6 hwl2;refine Zaaw Tryz.func7 rfl (Nat.le_of_ble_eq_true rfl) (hS.no rfl _ _) ?_
  rw [Tryz.ntmps7,Tryz.results7]
  repeat' (first | simp only [↓Zabs,↓Zabp,↓Zabr,↓Zaae,↓Zabq,↓Zacj,↓Zaci,↓Zaco,↓Zaaq,↓Zaaj,↓Zaah,↓bxOp_build,↓Zaap,↓Zaas,↓bxOp_un,↓bxOp_extract,↓Zaat,↓Zacl,↓bxPut,↓Zabk,↓Zabl,↓Zabi,↓Zacm,↓Zacn,↓Zaau,↓Zacp,↓Zaba,↓Zaay,↓Zaaz,Zack,una_nt,Zabt,Zacg,packRes_two,List.map_cons,List.map_nil,List.nil_append,List.append_nil,↓reduceIte,Nat.reduceEqDiff,Nat.reduceLT,Option.map_some, *,argF,List.getD_cons_zero,List.getD_cons_succ,ldP])
end Go.Proofs.YtpeoleimmabceaaGreat

namespace Go.Proofs.YtpeoleimmabceaaGreat
open Go Go.AM
set_option maxRecDepth 10000

def cnt (came n:Nat):Nat:=((List.range n).filter fun j => !came.testBit j).length
theorem cnt_zero:∀ n,n < 8 → ∀ came,came < 2 ^ n → (cnt came n = 0 ↔ came = 2 ^ n - 1):=by decide +kernel
theorem cnt_or:∀ n,n < 8 → ∀ came,came < 2 ^ n → ∀ j,j < n → came.testBit j = false → cnt (came ||| 2 ^ j) n + 1 = cnt came n ∧ came ||| 2 ^ j < 2 ^ n:=by decide +kernel
theorem bit_and:∀ came:Nat,came < 128 → ∀ j,j < 7 → (BitVec.ofInt 64 (came:Int) &&& BitVec.ofInt 64 ((2 ^ j:Nat):Int)).toNat = if came.testBit j then 2 ^ j else 0:=by decide +kernel
theorem bit_or:∀ came:Nat,came < 128 → ∀ j,j < 7 → (BitVec.ofInt 64 (came:Int) ||| BitVec.ofInt 64 ((2 ^ j:Nat):Int)).toNat = came ||| 2 ^ j:=by decide +kernel
theorem pow_small:∀ j,j < 8 → 2 ^ j ≤ 128:=by decide
theorem or_bit (came i j:Nat):(came ||| 2 ^ j).testBit i = (came.testBit i || decide (j = i)):=by
  rw [Nat.testBit_or,Nat.testBit_two_pow]

def VR (c:List Int):Nat → Nat → Int → List Int → Nat → Int
  | 0,_,_,tk,i => tk.getD i 0
  | m + 1,came,left,tk,i => ((List.range c.length).map fun j => if came.testBit j then 0 else VR c m (came ||| 2 ^ j) (left - min (c.getD j 0) left) (tk.set j (min (c.getD j 0) left)) i).sum
def DR (n:Nat):Nat → Nat → Int
  | 0,_ => 1
  | m + 1,came => ((List.range n).map fun j => if came.testBit j then 0 else DR n m (came ||| 2 ^ j)).sum
theorem sum_nonneg {l:List Int} (h:∀ x ∈ l,0 ≤ x):0 ≤ l.sum:=by
  induction l with
  | nil => simp
  | cons a l ih => rw [List.sum_cons]; have:=h a (List.mem_cons_self ..); have:=ih fun x hx => h x (List.mem_cons_of_mem _ hx); omega
theorem range_take_sum (f:Nat → Int) {n k:Nat} (hf:∀ j,j < n → 0 ≤ f j) (hk:k < n):((List.range (k + 1)).map f).sum = ((List.range k).map f).sum + f k ∧ ((List.range (k + 1)).map f).sum ≤ ((List.range n).map f).sum:=by
  refine ⟨by rw [List.range_succ,List.map_append,List.sum_append]; simp,?_⟩
  obtain ⟨d,rfl⟩:∃ d,n = (k + 1) + d:=⟨n - (k + 1),by omega⟩
  rw [List.range_add (n:=k + 1) (m:=d),List.map_append,List.sum_append]
  have:=sum_nonneg (l:=((List.range d).map fun x => k + 1 + x).map f) (fun x hx => by
    obtain ⟨y,hy,rfl⟩:=List.mem_map.1 hx;obtain ⟨z,hz,rfl⟩:=List.mem_map.1 hy
    exact hf _ (by have:=List.mem_range.1 hz; omega))
  omega
theorem VR_agree (c:List Int) (h7:c.length < 8):∀ (m came:Nat) (left:Int) (t1 t2:List Int) (i:Nat),came < 2 ^ c.length → cnt came c.length = m → i < c.length → t1.length = c.length → t2.length = c.length → (∀ j,j < c.length → came.testBit j = true → t1.getD j 0 = t2.getD j 0) → VR c m came left t1 i = VR c m came left t2 i
  | 0,came,left,t1,t2,i,hc,hm,hi,l1,l2,h => by
    have h1:=(cnt_zero _ h7 came hc).1 hm;refine h i hi ?_
    rw [h1,Nat.testBit_two_pow_sub_one];exact decide_eq_true hi
  | m + 1,came,left,t1,t2,i,hc,hm,hi,l1,l2,h => by
    unfold VR;refine sum_congr fun j hj => ?_
    cases hb:came.testBit j with
    | true => rfl
    | false =>
      obtain ⟨k1,k2⟩:=cnt_or _ h7 came hc j hj hb;simp only [Bool.false_eq_true,if_false];refine VR_agree c h7 m _ _ _ _ i k2 (by omega) hi (by simp [l1]) (by simp [l2]) fun k hk hkb => ?_
      rw [set_getD (by omega),set_getD (by omega)]
      by_cases hkj:k = j
      · rw [if_pos hkj,if_pos hkj]
      · rw [if_neg hkj,if_neg hkj];rw [or_bit] at hkb;refine h k hk ?_
        cases hq:came.testBit k with
        | true => rfl
        | false => rw [hq] at hkb; simp at hkb; omega
theorem VR_nonneg (c:List Int) (h7:c.length < 8) (hp:∀ x ∈ c,0 ≤ x):∀ (m came:Nat) (left:Int) (t:List Int) (i:Nat),came < 2 ^ c.length → cnt came c.length = m → i < c.length → t.length = c.length → 0 ≤ left → (∀ j,j < c.length → came.testBit j = true → 0 ≤ t.getD j 0) → 0 ≤ VR c m came left t i
  | 0,came,left,t,i,hc,hm,hi,l1,hl,h => by
    have h1:=(cnt_zero _ h7 came hc).1 hm;refine h i hi ?_
    rw [h1,Nat.testBit_two_pow_sub_one];exact decide_eq_true hi
  | m + 1,came,left,t,i,hc,hm,hi,l1,hl,h => by
    unfold VR;refine sum_nonneg fun x hx => ?_
    obtain ⟨j,hj,rfl⟩:=List.mem_map.1 hx;have hj:=List.mem_range.1 hj;cases hb:came.testBit j with
    | true => simp
    | false =>
      obtain ⟨k1,k2⟩:=cnt_or _ h7 came hc j hj hb;simp only [Bool.false_eq_true,if_false];have hcj:=hp _ (Zabb (d:=0) hj);refine VR_nonneg c h7 hp m _ _ _ i k2 (by omega) hi (by simp [l1]) (by omega) fun k hk hkb => ?_
      rw [set_getD (by omega)]
      by_cases hkj:k = j
      · rw [if_pos hkj]; omega
      · rw [if_neg hkj];rw [or_bit] at hkb;refine h k hk ?_
        cases hq:came.testBit k with
        | true => rfl
        | false => rw [hq] at hkb; simp at hkb; omega
theorem DR_nonneg (n:Nat):∀ m came,0 ≤ DR n m came
  | 0,_ => by unfold DR; omega
  | m + 1,came => by
    unfold DR;refine sum_nonneg fun x hx => ?_
    obtain ⟨j,_,rfl⟩:=List.mem_map.1 hx;split
    · omega
    · exact DR_nonneg n m _

theorem wrapN {x:Nat} (h:x ≤ 1000):IntKind.i64.wrap (x:Int) = (x:Int):=IntWalk.i64_in _ (by omega)
variable {S:AM.Sys} (hS:Only S 5)
include hS

theorem only_runs (j:Nat) (hj:j < 7) (H:Heap):Runs Tryz.prog S (.fn 71) [.int .i64 (j:Int)] H (.int .i64 ((2 ^ j:Nat):Int)) H:=by
  suffices h:WCall Tryz.prog S (.fn 71) [.int .i64 (j:Int)] H (fun v H' => v = .int .i64 ((2 ^ j:Nat):Int) ∧ H' = H) by
    obtain ⟨_,_,hr,rfl,rfl⟩:=h; exact hr
  have hp:=pow_small j (by omega)
  have h0:(0:Int) ≤ (j:Int):=Int.natCast_nonneg _;have hw:IntKind.i64.wrap (1 * 2 ^ min j IntKind.i64.bits) = ((2 ^ j:Nat):Int):=by
    rw [show min j IntKind.i64.bits = j from Nat.min_eq_left (by show j ≤ 64; omega),Int.one_mul,Int.natCast_pow]
    have:((2:Int) ^ j) = ((2 ^ j:Nat):Int):=by rw [Int.natCast_pow]; rfl
    show IntKind.i64.wrap ((2:Int) ^ j) = (2:Int) ^ j;rw [this];exact wrapN (by omega)
  refine Zaaw Tryz.func71 rfl (Nat.le_of_ble_eq_true rfl) (hS.no rfl _ _) ?_
  rw [Tryz.ntmps71,Tryz.results71]
  repeat' (first | simp only [↓Zabp,↓Zabr,↓Zabq,↓Zacj,↓Zaci,↓Zaco,↓Zaaq,↓Zaaj,↓Zaak,↓bxPut,↓Zabk,↓Zabi,↓Zacm,↓Zacn,↓Zacp,↓Zaba,↓Zaay,Zack,Zaab,Zabd,Zabg,↓reduceIte,Nat.reduceEqDiff,Nat.reduceLT,and_self,Int.toNat_natCast, *,argF,List.getD_cons_zero])
theorem has_runs (came j:Nat) (hc:came < 128) (hj:j < 7) (H:Heap):Runs Tryz.prog S (.fn 70) [.int .i64 (came:Int),.int .i64 (j:Int)] H (.bool (came.testBit j)) H:=by
  suffices h:WCall Tryz.prog S (.fn 70) [.int .i64 (came:Int),.int .i64 (j:Int)] H (fun v H' => v = .bool (came.testBit j) ∧ H' = H) by
    obtain ⟨_,_,hr,rfl,rfl⟩:=h; exact hr
  have f1:=(only_runs hS j hj H).bx;have hp:=pow_small j (by omega)
  have hpos:0 < 2 ^ j:=Nat.two_pow_pos j;have ha:IntKind.i64.wrap (((BitVec.ofInt IntKind.i64.bits (came:Int) &&& BitVec.ofInt IntKind.i64.bits ((2 ^ j:Nat):Int)).toNat:Nat):Int) = if came.testBit j then ((2 ^ j:Nat):Int) else 0:=by
    rw [show (BitVec.ofInt IntKind.i64.bits (came:Int) &&& BitVec.ofInt IntKind.i64.bits ((2 ^ j:Nat):Int)).toNat = _ from bit_and came hc j hj]
    split
    · exact wrapN (by omega)
    · rfl
  have hd:decide (¬ (if came.testBit j then ((2 ^ j:Nat):Int) else 0) = 0) = came.testBit j:=by
    cases came.testBit j with
    | true =>
      simp only [if_true];refine decide_eq_true fun h => ?_
      have h:2 ^ j = 0:=Int.ofNat.inj h;omega
    | false => simp
  refine Zaaw Tryz.func70 rfl (Nat.le_of_ble_eq_true rfl) (hS.no rfl _ _) ?_
  rw [Tryz.ntmps70,Tryz.results70]
  repeat' (first | simp only [↓Zabp,↓Zabr,↓Zabq,↓Zacj,↓Zaci,↓Zaco,↓Zaaq,↓Zaaj,↓Zaak,↓Zaat,↓bxPut,↓Zabk,↓Zabi,↓Zacm,↓Zacn,↓Zacp,↓Zaba,↓Zaay,↓Zaaz,Zack,Zaab,Zabd,Zabt,Zabg,List.map_cons,List.map_nil,List.nil_append,List.append_nil,↓reduceIte,Nat.reduceEqDiff,Nat.reduceLT,and_self, *,argF,List.getD_cons_zero,List.getD_cons_succ,Zabd])
theorem every_runs (n:Nat) (hn:n ≤ 7) (H:Heap):Runs Tryz.prog S (.fn 45) [.int .i64 (n:Int)] H (.int .i64 ((2 ^ n - 1:Nat):Int)) H:=by
  suffices h:WCall Tryz.prog S (.fn 45) [.int .i64 (n:Int)] H (fun v H' => v = .int .i64 ((2 ^ n - 1:Nat):Int) ∧ H' = H) by
    obtain ⟨_,_,hr,rfl,rfl⟩:=h; exact hr
  have hp:=pow_small n (by omega)
  have hpos:0 < 2 ^ n:=Nat.two_pow_pos n;have h0:(0:Int) ≤ (n:Int):=Int.natCast_nonneg _;have hw:IntKind.i64.wrap (1 * 2 ^ min n IntKind.i64.bits) = ((2 ^ n:Nat):Int):=by
    rw [show min n IntKind.i64.bits = n from Nat.min_eq_left (by show n ≤ 64; omega),Int.one_mul]
    have:((2:Int) ^ n) = ((2 ^ n:Nat):Int):=by rw [Int.natCast_pow]; rfl
    rw [this];exact wrapN (by omega)
  have hw2:IntKind.i64.wrap (((2 ^ n:Nat):Int) - 1) = ((2 ^ n - 1:Nat):Int):=by
    obtain ⟨q,hq⟩:∃ q,q = 2 ^ n:=⟨_,rfl⟩;rw [← hq] at hp hpos ⊢;rw [IntWalk.i64_in _ (by omega)]; omega
  refine Zaaw Tryz.func45 rfl (Nat.le_of_ble_eq_true rfl) (hS.no rfl _ _) ?_
  rw [Tryz.ntmps45,Tryz.results45]
  repeat' (first | simp only [↓Zabp,↓Zabr,↓Zabq,↓Zacj,↓Zaci,↓Zaco,↓Zaaq,↓Zaaj,↓Zaak,↓bxPut,↓Zabk,↓Zabi,↓Zacm,↓Zacn,↓Zacp,↓Zaba,↓Zaay,Zack,Zaab,Zabd,Zabg,↓reduceIte,Nat.reduceEqDiff,Nat.reduceLT,and_self,Int.toNat_natCast, *,argF,List.getD_cons_zero])
end Go.Proofs.YtpeoleimmabceaaGreat
