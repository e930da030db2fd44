/- RuleRun: what one gets, as a sum over who comes next; who has more gets no less; with more nobody gets less. -/
import Derived.Test.YtpeoleimmabceaaGreatED
import Derived.Test.YtpeoleimmabceaaGreatF3
set_option linter.unusedVariables false
set_option linter.unusedSimpArgs false
set_option linter.unusedSectionVars false

namespace Go.Proofs.YtpeoleimmabceaaGreat
open Go Go.AM

def UR (c:List Int):Nat → Nat → Int → Int → Int
  | 0,set,left,x => DR c.length 0 set * min x left
  | m + 1,set,left,x => DR c.length (m + 1) set * min x left + ((List.range c.length).map fun k => if set.testBit k then 0 else UR c m (set ||| 2 ^ k) (left - min (c.getD k 0) left) x).sum
def WR (n:Nat):Nat → Nat → Int
  | 0,set => DR n 0 set
  | m + 1,set => DR n (m + 1) set + ((List.range n).map fun k => if set.testBit k then 0 else WR n m (set ||| 2 ^ k)).sum
variable {c:List Int} (h7:c.length < 8)
include h7
theorem VU:∀ (m came:Nat) (left:Int) (t:List Int) (i:Nat),came < 2 ^ c.length → cnt came c.length = m + 1 → i < c.length → t.length = c.length → came.testBit i = false → VR c (m + 1) came left t i = UR c m (came ||| 2 ^ i) left (c.getD i 0)
  | m,came,left,t,i,hc,hm,hi,l1,hb => by
    obtain ⟨q1,q2⟩:=cnt_or _ h7 came hc i hi hb;have e1:VR c (m + 1) came left t i = ((List.range c.length).map fun j => if came.testBit j then 0 else VR c m (came ||| 2 ^ j) (left - min (c.getD j 0) left) (t.set j (min (c.getD j 0) left)) i).sum:=by simp only [VR]
    have e2:VR c m (came ||| 2 ^ i) (left - min (c.getD i 0) left) (t.set i (min (c.getD i 0) left)) i = DR c.length m (came ||| 2 ^ i) * min (c.getD i 0) left:=by
      rw [(VR_bound c h7 m _ _ _ i q2 (by omega) hi (by simp [l1])).1 (by rw [or_bit]; simp),set_getD (by omega),if_pos rfl]
    have e3:∀ j,j < c.length → (if j = i then DR c.length m (came ||| 2 ^ i) * min (c.getD i 0) left else if (came ||| 2 ^ i).testBit j then 0 else match m with | 0 => 0 | m + 1 => UR c m ((came ||| 2 ^ i) ||| 2 ^ j) (left - min (c.getD j 0) left) (c.getD i 0)) = (if came.testBit j then 0 else VR c m (came ||| 2 ^ j) (left - min (c.getD j 0) left) (t.set j (min (c.getD j 0) left)) i):=fun j hj => by
      by_cases hij:j = i
      · subst hij;rw [if_pos rfl,hb];exact e2.symm
      · rw [if_neg hij,or_bit,decide_eq_false (fun h => hij h.symm),Bool.or_false]
        cases hbj:came.testBit j with
        | true => rfl
        | false =>
          obtain ⟨k1,k2⟩:=cnt_or _ h7 came hc j hj hbj;have hbi:(came ||| 2 ^ j).testBit i = false:=by rw [or_bit,hb]; simpa using hij
          obtain ⟨k3,k4⟩:=cnt_or _ h7 _ k2 i hi hbi;simp only [Bool.false_eq_true,if_false];cases m with
          | zero => omega
          | succ m =>
            rw [VU m (came ||| 2 ^ j) _ _ i k2 (by omega) hi (by simp [l1]) hbi]
            rw [Nat.or_assoc,Nat.or_assoc,Nat.or_comm (2 ^ i)]
    rw [e1,← sum_congr e3,sum_one hi];have hbi:(came ||| 2 ^ i).testBit i = true:=by rw [or_bit]; simp
    rw [hbi];simp only [if_true,Int.sub_zero];cases m with
    | zero =>
      simp only [UR];rw [sum_congr (g:=fun _ => 0) fun j _ => by split <;> rfl,sum_zero,Int.zero_add]
    | succ m => simp only [UR]; omega
theorem WU:∀ (m came:Nat) (i:Nat),came < 2 ^ c.length → cnt came c.length = m + 1 → i < c.length → came.testBit i = false → DR c.length (m + 1) came = WR c.length m (came ||| 2 ^ i)
  | m,came,i,hc,hm,hi,hb => by
    have e1:DR c.length (m + 1) came = ((List.range c.length).map fun j => if came.testBit j then 0 else DR c.length m (came ||| 2 ^ j)).sum:=by simp only [DR]
    have e3:∀ j,j < c.length → (if j = i then DR c.length m (came ||| 2 ^ i) else if (came ||| 2 ^ i).testBit j then 0 else match m with | 0 => 0 | m + 1 => WR c.length m ((came ||| 2 ^ i) ||| 2 ^ j)) = (if came.testBit j then 0 else DR c.length m (came ||| 2 ^ j)):=fun j hj => by
      by_cases hij:j = i
      · subst hij;rw [if_pos rfl,hb]; rfl
      · rw [if_neg hij,or_bit,decide_eq_false (fun h => hij h.symm),Bool.or_false]
        cases hbj:came.testBit j with
        | true => rfl
        | false =>
          obtain ⟨k1,k2⟩:=cnt_or _ h7 came hc j hj hbj;have hbi:(came ||| 2 ^ j).testBit i = false:=by rw [or_bit,hb]; simpa using hij
          obtain ⟨k3,k4⟩:=cnt_or _ h7 _ k2 i hi hbi;simp only [Bool.false_eq_true,if_false];cases m with
          | zero => omega
          | succ m =>
            rw [WU m (came ||| 2 ^ j) i k2 (by omega) hi hbi]
            rw [Nat.or_assoc,Nat.or_assoc,Nat.or_comm (2 ^ i)]
    rw [e1,← sum_congr e3,sum_one hi];have hbi:(came ||| 2 ^ i).testBit i = true:=by rw [or_bit]; simp
    rw [hbi];simp only [if_true,Int.sub_zero];cases m with
    | zero =>
      simp only [WR];rw [sum_congr (g:=fun _ => 0) fun j _ => by split <;> rfl,sum_zero,Int.zero_add]
    | succ m => simp only [WR]; omega
omit h7
theorem UR_mono (hp:∀ x ∈ c,0 ≤ x):∀ (m set:Nat) {l1 l2 x1 x2:Int},0 ≤ l1 → l1 ≤ l2 → x1 ≤ x2 → UR c m set l1 x1 ≤ UR c m set l2 x2
  | 0,set,l1,l2,x1,x2,h0,h1,h2 => by
    simp only [UR];exact Int.mul_le_mul_of_nonneg_left (by omega) (DR_nonneg _ _ _)
  | m + 1,set,l1,l2,x1,x2,h0,h1,h2 => by
    simp only [UR];have k1:DR c.length (m + 1) set * min x1 l1 ≤ DR c.length (m + 1) set * min x2 l2:=Int.mul_le_mul_of_nonneg_left (by omega) (DR_nonneg _ _ _)
    have k2:((List.range c.length).map fun k => if set.testBit k then 0 else UR c m (set ||| 2 ^ k) (l1 - min (c.getD k 0) l1) x1).sum ≤ ((List.range c.length).map fun k => if set.testBit k then 0 else UR c m (set ||| 2 ^ k) (l2 - min (c.getD k 0) l2) x2).sum:=by
      refine sum_le_of fun k hk => ?_
      split
      · omega
      · have:=hp _ (Zabb (d:=0) (List.mem_range.1 hk));exact UR_mono hp m _ (by omega) (by omega) h2
    omega
end Go.Proofs.YtpeoleimmabceaaGreat

namespace Go.Proofs.YtpeoleimmabceaaGreat
open Go Go.AM
set_option maxRecDepth 10000

def Op (c w:List Int) (d:Int):Prop:=∀ i j,i < c.length → j < c.length → c.getD i 0 ≤ c.getD j 0 → w.getD i 0 ≤ w.getD j 0 ∧ c.getD i 0 * d - w.getD i 0 ≤ c.getD j 0 * d - w.getD j 0
theorem CEA.op {e:Int} {c w:List Int} {d:Int} (h:CEA e c w d) (hd:1 ≤ d):Op c w d:=fun i j hi hj hle => by
  obtain ⟨L,k,h1,h2,h3,_⟩:=h;have ei:=h3 i hi;have ej:=h3 j hj;have hk:c.getD i 0 * k ≤ c.getD j 0 * k:=Int.mul_le_mul_of_nonneg_right hle (by omega)
  have m1:d * min (c.getD i 0 * k) L ≤ d * min (c.getD j 0 * k) L:=Int.mul_le_mul_of_nonneg_left (by omega) (by omega)
  have m2:d * (c.getD i 0 * k - min (c.getD i 0 * k) L) ≤ d * (c.getD j 0 * k - min (c.getD j 0 * k) L):=Int.mul_le_mul_of_nonneg_left (by omega) (by omega)
  rw [Int.mul_sub,Int.mul_sub,← ei,← ej] at m2;rw [← ei,← ej] at m1;refine ⟨Int.le_of_mul_le_mul_right m1 (by omega),Int.le_of_mul_le_mul_right (a:=k) ?_ (by omega)⟩
  rw [Int.sub_mul,Int.sub_mul,Int.mul_right_comm,Int.mul_right_comm _ d,Int.mul_comm _ d,Int.mul_comm (c.getD j 0 * k) d];exact m2
theorem runV_eq {e:Int} {c:List Int} (h7:c.length < 8) {i:Nat} (hi:i < c.length):RunV e c i = UR c (c.length - 1) (2 ^ i) e (c.getD i 0) ∧ DR c.length c.length 0 = WR c.length (c.length - 1) (2 ^ i):=by
  have hpow:0 < 2 ^ c.length:=Nat.two_pow_pos _;obtain ⟨m,hm⟩:∃ m,c.length = m + 1:=⟨c.length - 1,by omega⟩
  have h1:=VU h7 m 0 e (zeros c.length) i hpow (by rw [cnt_all]; exact hm) hi (by simp [zeros]) (by simp)
  have h2:=WU h7 m 0 i hpow (by rw [cnt_all]; exact hm) hi (by simp)
  rw [Nat.zero_or] at h1 h2;have hm1:c.length - 1 = m:=by omega
  refine ⟨?_,?_⟩
  · unfold RunV;rw [hm1,← h1,← hm]
  · rw [hm1,← h2,← hm]
variable {S:AM.Sys} (hS:Only S 5)
include hS

theorem few_runs (a:Option Addr) (n c:Nat) (H:Heap):Runs Tryz.prog S (.fn 4) [.slice a n c] H (.bool (decide ((n:Int) ≤ 40))) H:=by
  suffices h:WCall Tryz.prog S (.fn 4) [.slice a n c] H (fun v H' => v = .bool (decide ((n:Int) ≤ 40)) ∧ H' = H) by
    obtain ⟨_,_,hr,rfl,rfl⟩:=h; exact hr
  refine Zaaw Tryz.func4 rfl (Nat.le_of_ble_eq_true rfl) (hS.no rfl _ _) ?_
  rw [Tryz.ntmps4,Tryz.results4]
  repeat' (first | simp only [↓Zabp,↓Zabr,↓Zabq,↓Zacj,↓Zaci,↓Zaco,↓Zaaq,↓Zaaj,↓Zaak,↓Zaao,↓bxPut,↓Zabk,↓Zabi,↓Zacm,↓Zacn,↓Zacp,↓Zaba,↓Zaay,Zack,Zaab,Zabd,Zabg,↓reduceIte,Nat.reduceEqDiff,Nat.reduceLT,and_self, *,argF,List.getD_cons_zero,lenI])
theorem ShareR_runs (rule e:Int) (v:Value) (c:List Int) (r o:Nat) (H:Heap) (hg:Grp H) (hL:H.low ≤ H.size) (hl:SlI .i64 H v c r o) :
    ∃ u H',Runs Tryz.prog S (.fn 7) [.int .i64 rule,.int .i64 e,v] H u H' ∧ PostSh RunR H rule e c u H':=
  Share_runs hS RunR (fun h1 h2 h3 => runR_sc h1 h2 h3) rule e v c r o H hg hL hl fun hp _ H1 k1 => run_runs hS e v c r o H1 (k1.grp hg) (k1.low hL) (hl.keep k1) hp

end Go.Proofs.YtpeoleimmabceaaGreat

namespace Go.Proofs.YtpeoleimmabceaaGreat
open Go Go.AM
set_option maxRecDepth 10000

theorem all_eq {n:Nat} {f g:Nat → Int} (h:∀ i,i < n → f i ≤ g i) (hs:((List.range n).map g).sum ≤ ((List.range n).map f).sum) {i:Nat} (hi:i < n):f i = g i:=by
  have h1:=range_take_sum (fun i => g i - f i) (n:=n) (k:=i) (fun j hj => by have:=h j hj; omega) hi
  have h2:0 ≤ ((List.range i).map fun i => g i - f i).sum:=sum_nonneg fun x hx => by
    obtain ⟨j,hj,rfl⟩:=List.mem_map.1 hx;have:=h j (by have:=List.mem_range.1 hj; omega)
    omega
  have h3:=sum_sub (List.range n) g f;have h1b:((List.range (i + 1)).map fun i => g i - f i).sum = ((List.range i).map fun i => g i - f i).sum + (g i - f i):=h1.1
  have h1c:((List.range (i + 1)).map fun i => g i - f i).sum ≤ ((List.range n).map fun i => g i - f i).sum:=h1.2
  have:=h i hi;omega
theorem cea_grow {e e':Int} {c w w':List Int} {d d':Int} (h:CEA e c w d) (h':CEA e' c w' d') (hl:w.length = c.length) (hl':w'.length = c.length) (hd:1 ≤ d) (hd':1 ≤ d') (hle:e ≤ e') {i:Nat} (hi:i < c.length):w.getD i 0 * d' ≤ w'.getD i 0 * d:=by
  obtain ⟨L,k,h1,h2,h3,h4⟩:=h;obtain ⟨L',k',g1,g2,g3,g4⟩:=h';have hkk:0 < k * k':=Int.mul_pos (by omega) (by omega)
  have e1:∀ j,j < c.length → w.getD j 0 * d' * (k * k') = d * d' * min (c.getD j 0 * (k * k')) (L * k'):=fun j hj => by
    have a:=h3 j hj;have b:min (c.getD j 0 * (k * k')) (L * k') = min (c.getD j 0 * k) L * k':=by
      rw [← Int.mul_assoc];rcases Int.le_total (c.getD j 0 * k) L with q | q
      · rw [Int.min_eq_left q,Int.min_eq_left (Int.mul_le_mul_of_nonneg_right q (by omega))]
      · rw [Int.min_eq_right q,Int.min_eq_right (Int.mul_le_mul_of_nonneg_right q (by omega))]
    rw [b,Int.mul_right_comm d d',← Int.mul_assoc d,← a];simp only [Int.mul_comm,Int.mul_left_comm,Int.mul_assoc]
  have e2:∀ j,j < c.length → w'.getD j 0 * d * (k * k') = d * d' * min (c.getD j 0 * (k * k')) (L' * k):=fun j hj => by
    have a:=g3 j hj;have b:min (c.getD j 0 * (k * k')) (L' * k) = min (c.getD j 0 * k') L' * k:=by
      rw [Int.mul_comm k k',← Int.mul_assoc];rcases Int.le_total (c.getD j 0 * k') L' with q | q
      · rw [Int.min_eq_left q,Int.min_eq_left (Int.mul_le_mul_of_nonneg_right q (by omega))]
      · rw [Int.min_eq_right q,Int.min_eq_right (Int.mul_le_mul_of_nonneg_right q (by omega))]
    rw [b,Int.mul_assoc d d',← Int.mul_assoc d',← a];simp only [Int.mul_comm,Int.mul_left_comm,Int.mul_assoc]
  have hdd:0 ≤ d * d':=Int.mul_nonneg (by omega) (by omega)
  rcases Int.le_total (L * k') (L' * k) with hL | hL
  · refine Int.le_of_mul_le_mul_right (a:=k * k') ?_ hkk;rw [e1 i hi,e2 i hi];exact Int.mul_le_mul_of_nonneg_left (by omega) hdd
  · have hall:∀ j,j < c.length → w'.getD j 0 * d ≤ w.getD j 0 * d':=fun j hj => by
      refine Int.le_of_mul_le_mul_right (a:=k * k') ?_ hkk;rw [e1 j hj,e2 j hj];exact Int.mul_le_mul_of_nonneg_left (by omega) hdd
    have hs1:((List.range c.length).map fun j => w'.getD j 0 * d).sum = e' * d' * d:=by rw [sum_mul_right,← hl',← sum_range,g4]
    have hs2:((List.range c.length).map fun j => w.getD j 0 * d').sum = e * d * d':=by rw [sum_mul_right,← hl,← sum_range,h4]
    have hs3:e * d * d' ≤ e' * d' * d:=by
      rw [Int.mul_right_comm e',Int.mul_assoc,Int.mul_assoc];exact Int.mul_le_mul_of_nonneg_right hle hdd
    exact Int.le_of_eq (all_eq hall (by rw [hs1,hs2]; exact hs3) hi).symm
theorem cea_le {e:Int} {c w:List Int} {d:Int} (h:CEA e c w d) (hd:1 ≤ d) {i:Nat} (hi:i < c.length):w.getD i 0 ≤ c.getD i 0 * d:=by
  obtain ⟨L,k,h1,h2,h3,h4⟩:=h;refine Int.le_of_mul_le_mul_right (a:=k) ?_ (by omega)
  rw [h3 i hi,Int.mul_right_comm,Int.mul_comm (c.getD i 0 * k)];exact Int.mul_le_mul_of_nonneg_left (by omega) (by omega)
theorem dbl_len (w:List Int):(dbl w).length = w.length:=by simp [dbl]
theorem awd_grow' {rule e e':Int} {c w w':List Int} {d d':Int} (hp:Q.Prob e c) (hp':Q.Prob e' c) (hl:w.length = c.length) (hl':w'.length = c.length) (hd:1 ≤ d) (hd':1 ≤ d') (h:Awd RunR rule e c w d) (h':Awd RunR rule e' c w' d') (hle:e ≤ e') {i:Nat} (hi:i < c.length):w.getD i 0 * d' ≤ w'.getD i 0 * d:=by
  have cross:∀ {x y:Int},(c.getD i 0 * d' - y) * d ≤ (c.getD i 0 * d - x) * d' → x * d' ≤ y * d:=fun {x y} q => by
    rw [Int.sub_mul,Int.sub_mul,Int.mul_right_comm _ d' d] at q;omega
  unfold Awd at h h'
  by_cases h0:rule = 0
  · rw [if_pos h0] at h h'; exact cea_grow h h' hl hl' hd hd' hle hi
  rw [if_neg h0] at h h'
  by_cases h1:rule = 1
  · rw [if_pos h1] at h h';have q:=cea_grow h' h (zipL_len _ _ _) (zipL_len _ _ _) hd' hd (by omega) hi
    rw [zipL_at hi,zipL_at hi] at q;exact cross q
  rw [if_neg h1] at h h'
  by_cases h2:rule = 2
  · rw [if_pos h2] at h h';have a:=h i hi;have b:=h' i hi;have hc:=(hp.2.2.1 _ (Zabb (d:=0) hi)).1;obtain ⟨T,hT⟩:∃ T,T = max 1 c.sum:=⟨_,rfl⟩;rw [← hT] at a b;refine Int.le_of_mul_le_mul_right (a:=T) ?_ (by omega)
    rw [Int.mul_right_comm,a,Int.mul_right_comm _ d T,b,Int.mul_right_comm _ d' d];exact Int.mul_le_mul_of_nonneg_right (Int.mul_le_mul_of_nonneg_right (Int.mul_le_mul_of_nonneg_right hle hc) (by omega)) (by omega)
  rw [if_neg h2] at h h'
  by_cases h3:rule = 3
  · rw [if_pos h3] at h h'
    by_cases h4:e ≤ c.sum - e
    · rw [if_pos h4] at h
      by_cases h5:e' ≤ c.sum - e'
      · rw [if_pos h5] at h';have q:=cea_grow h h' ((dbl_len _).trans hl) ((dbl_len _).trans hl') hd hd' (by omega) hi
        rw [dbl_at (by omega),dbl_at (by omega),Int.mul_assoc,Int.mul_assoc] at q
        omega
      · rw [if_neg h5] at h';have q1:=cea_le h hd hi;have q2:=cea_le h' hd' hi;rw [dbl_at (by omega)] at q1
        rw [dbl_at (by rw [zipL_len]; exact hi),zipL_at hi] at q2
        have m1:=Int.mul_le_mul_of_nonneg_right q1 (show 0 ≤ d' by omega)
        have m2:=Int.mul_le_mul_of_nonneg_right q2 (show 0 ≤ d by omega)
        rw [Int.mul_assoc] at m1;rw [Int.mul_assoc,Int.sub_mul,Int.mul_right_comm _ d' d] at m2;omega
    · rw [if_neg h4] at h
      by_cases h5:e' ≤ c.sum - e'
      · omega
      · rw [if_neg h5] at h';have q:=cea_grow h' h ((dbl_len _).trans (zipL_len _ _ _)) ((dbl_len _).trans (zipL_len _ _ _)) hd' hd (by omega) hi
        rw [dbl_at (by rw [zipL_len]; exact hi),dbl_at (by rw [zipL_len]; exact hi),zipL_at hi,zipL_at hi,Int.mul_assoc,Int.mul_assoc] at q
        exact cross (by omega)
  rw [if_neg h3] at h h';have h7:c.length < 8:=by have:=hp.2.1; omega
  have hN:=(DR_fact _ h7).1;have a:=h i hi;have b:=h' i hi;have hm:RunV e c i ≤ RunV e' c i:=by
    rw [(runV_eq h7 hi).1,(runV_eq h7 hi).1];exact UR_mono (fun x hx => (hp.2.2.1 x hx).1) _ _ hp.1.1 hle (Int.le_refl _)
  refine Int.le_of_mul_le_mul_right (a:=DR c.length c.length 0) ?_ (by omega)
  rw [Int.mul_right_comm (w.getD i 0),a,Int.mul_right_comm (w'.getD i 0),b,Int.mul_right_comm _ d' d];exact Int.mul_le_mul_of_nonneg_right (Int.mul_le_mul_of_nonneg_right hm (by omega)) (by omega)

theorem awd_same {rule e:Int} {c w w':List Int} {d d':Int} (hp:Q.Prob e c) (hl:w.length = c.length) (hl':w'.length = c.length) (hd:1 ≤ d) (hd':1 ≤ d') (h:Awd RunR rule e c w d) (h':Awd RunR rule e c w' d') {i:Nat} (hi:i < c.length):w.getD i 0 * d' = w'.getD i 0 * d:=
  Int.le_antisymm (awd_grow' hp hp hl hl' hd hd' h h' (Int.le_refl _) hi) (awd_grow' hp hp hl' hl hd' hd h' h (Int.le_refl _) hi)

variable {S:AM.Sys} (hS:Only S 5)
include hS

end Go.Proofs.YtpeoleimmabceaaGreat

namespace Go.Proofs.YtpeoleimmabceaaGreat
open Go Go.AM

theorem setAt_other {α:Type} {d:List α} {i j:Nat} {z e:α} (h:i ≠ j):(d.set j z).getD i e = d.getD i e:=by
  rw [List.getD_eq_getElem?_getD,List.getD_eq_getElem?_getD,List.getElem?_set_ne (Ne.symm h)]
theorem setAt_same {α:Type} {d:List α} {j:Nat} {z e:α} (h:j < d.length):(d.set j z).getD j e = z:=by
  rw [List.getD_eq_getElem?_getD,List.getElem?_set_self h]; rfl
theorem sum_setAt:∀ (w:List Int) (j:Nat) (x:Int),j < w.length → (w.set j x).sum = w.sum - w.getD j 0 + x
  | [],j,x,h => by simp at h
  | y :: w,0,x,h => by simp; omega
  | y :: w,j + 1,x,h => by
    have:=sum_setAt w j x (by simpa using h)
    have h2:(y :: w).getD (j + 1) 0 = w.getD j 0:=rfl;rw [h2,List.set_cons_succ,List.sum_cons,List.sum_cons,this]; omega
def opn (dn:List Bool):Nat:=dn.countP fun b => !b
theorem opn_pos {dn:List Bool} (h:0 < opn dn):∃ i,i < dn.length ∧ dn.getD i false = false:=by
  obtain ⟨b,hb,hp⟩:=List.countP_pos_iff.1 h;obtain ⟨i,hi,rfl⟩:=List.getElem_of_mem hb;refine ⟨i,hi,?_⟩;rw [List.getD_eq_getElem?_getD,List.getElem?_eq_getElem hi]
  simpa using hp
theorem opn_zero {dn:List Bool} (h:opn dn = 0) {i:Nat} (hi:i < dn.length):dn.getD i false = true:=by
  have h1:=List.countP_eq_zero.1 h dn[i] (List.getElem_mem hi);rw [List.getD_eq_getElem?_getD,List.getElem?_eq_getElem hi]
  simpa using h1
theorem opn_set {dn:List Bool} {i:Nat} (hi:i < dn.length) (h:dn.getD i false = false):opn (dn.set i true) + 1 = opn dn:=by
  unfold opn;rw [List.countP_set hi];rw [List.getD_eq_getElem?_getD,List.getElem?_eq_getElem hi] at h;have h:dn[i] = false:=h;rw [h];have:0 < dn.countP fun b => !b:=List.countP_pos_iff.2 ⟨dn[i],List.getElem_mem hi,by rw [h]; rfl⟩
  simp; omega
structure EqI (C:List Int) (E0:Int) (m:Nat) (E:Int) (w:List Int) (dn:List Bool):Prop where
  wl:w.length = C.length
  dl:dn.length = C.length
  cnt:opn dn = m
  un:∀ i,i < C.length → dn.getD i false = false → w.getD i 0 = 0
  sum:w.sum + E = E0
  e0:0 ≤ E
  e1:E ≤ E0
  ab:(E % 420 = 0 ∧ ∀ i,i < C.length → dn.getD i false = true → w.getD i 0 = C.getD i 0 ∧ C.getD i 0 * m ≤ E ∧ ∀ j,j < C.length → dn.getD j false = false → C.getD i 0 ≤ C.getD j 0) ∨
       (∃ P,0 ≤ P ∧ E = P * m ∧ (∀ i,i < C.length → dn.getD i false = true → w.getD i 0 = min (C.getD i 0) P) ∧ ∀ j,j < C.length → dn.getD j false = false → P ≤ C.getD j 0)
theorem opn_all (n:Nat):opn (List.replicate n false) = n:=by unfold opn; rw [List.countP_replicate]; rfl
theorem getD_replF (n i:Nat):(List.replicate n false).getD i false = false:=by
  rw [List.getD_eq_getElem?_getD,List.getElem?_replicate]; split <;> rfl
theorem getD_repl0 (n i:Nat):(List.replicate n (0:Int)).getD i 0 = 0:=by
  rw [List.getD_eq_getElem?_getD,List.getElem?_replicate]; split <;> rfl
theorem sum_repl0 (n:Nat):(List.replicate n (0:Int)).sum = 0:=by simp
theorem EqI.start {C:List Int} {E0:Int} (h0:0 ≤ E0) (h:E0 % 420 = 0):EqI C E0 C.length E0 (List.replicate C.length 0) (List.replicate C.length false):=
  ⟨by simp,by simp,opn_all _,fun i _ _ => getD_repl0 _ _,by rw [sum_repl0]; omega,h0,Int.le_refl _,.inl ⟨h,fun i _ h1 => by rw [getD_replF] at h1; cases h1⟩⟩
theorem dvd420 {m:Nat} (h1:m < 7) {E:Int} (h:E % 420 = 0):E / ((m + 1:Nat):Int) * ((m + 1:Nat):Int) = E:=by
  have:m = 0 ∨ m = 1 ∨ m = 2 ∨ m = 3 ∨ m = 4 ∨ m = 5 ∨ m = 6:=by omega
  rcases this with rfl | rfl | rfl | rfl | rfl | rfl | rfl <;> omega
section eq
variable {C:List Int} {E0:Int} {m:Nat} {E:Int} {w:List Int} {dn:List Bool}
theorem EqI.part (h:EqI C E0 (m + 1) E w dn) (h7:m < 7):E / ((m + 1:Nat):Int) * ((m + 1:Nat):Int) = E ∧ 0 ≤ E / ((m + 1:Nat):Int):=by
  refine ⟨?_,Int.ediv_nonneg h.e0 (by omega)⟩
  rcases h.ab with ⟨h1,_⟩ | ⟨P,h1,h2,_⟩
  · exact dvd420 h7 h1
  · rw [h2,Int.mul_ediv_cancel _ (by omega)]
theorem EqI.step (h:EqI C E0 (m + 1) E w dn) {p:Int} (hp:p * ((m + 1:Nat):Int) = E) (hp0:0 ≤ p) (hC:∀ i,i < C.length → 0 ≤ C.getD i 0 ∧ C.getD i 0 % 420 = 0) {a:Nat} (ha:a < C.length) (hd:dn.getD a false = false)
    (hm:∀ j,j < C.length → dn.getD j false = false → C.getD a 0 ≤ C.getD j 0):EqI C E0 m (E - min (C.getD a 0) p) (w.set a (min (C.getD a 0) p)) (dn.set a true):=by
  obtain ⟨x,hx⟩:∃ x,x = min (C.getD a 0) p:=⟨_,rfl⟩;rw [← hx];have hpm:p * ((m:Nat):Int) + p = E:=by rw [← hp]; rw [Int.natCast_add,Int.mul_add]; simp
  have hpm0:0 ≤ p * ((m:Nat):Int):=Int.mul_nonneg hp0 (by omega)
  have hca:=hC a ha;have ha2:a < dn.length:=by rw [h.dl]; exact ha
  have hwl:=h.wl;refine ⟨by rw [List.length_set]; exact hwl,by rw [List.length_set]; exact h.dl,?_,fun i hi hdi => ?_,?_,by omega,by have:=h.e1; omega,?_⟩
  · have:=opn_set ha2 hd;rw [h.cnt] at this;omega
  · by_cases hia:i = a
    · subst hia; rw [setAt_same ha2] at hdi; cases hdi
    · rw [setAt_other hia] at hdi ⊢;exact h.un i hi hdi
  · rw [sum_setAt _ _ _ (by omega),h.un a ha hd]
    have:=h.sum;omega
  have hop:∀ j,(dn.set a true).getD j false = false → dn.getD j false = false:=fun j hj => by
    by_cases hja:j = a
    · subst hja; exact hd
    · rwa [setAt_other hja] at hj
  rcases h.ab with ⟨h1,h2⟩ | ⟨P,h1,h2,h3,h4⟩
  · by_cases hlt:C.getD a 0 < p
    · left;have hxa:x = C.getD a 0:=by omega
      have hle:C.getD a 0 * ((m:Nat):Int) ≤ E - x:=by
        have:C.getD a 0 * ((m:Nat):Int) ≤ p * ((m:Nat):Int):=Int.mul_le_mul_of_nonneg_right (by omega) (by omega)
        omega
      refine ⟨by rw [hxa]; omega,fun i hi hdi => ?_⟩
      by_cases hia:i = a
      · subst hia;rw [setAt_same (by omega)]
        exact ⟨hxa,hle,fun j hj hjd => hm j hj (hop j hjd)⟩
      · rw [setAt_other hia] at hdi ⊢;obtain ⟨k1,k2,k3⟩:=h2 i hi hdi;refine ⟨k1,?_,fun j hj hjd => k3 j hj (hop j hjd)⟩
        have:=k3 a ha hd;have:C.getD i 0 * ((m:Nat):Int) ≤ C.getD a 0 * ((m:Nat):Int):=Int.mul_le_mul_of_nonneg_right this (by omega)
        omega
    · right;have hxp:x = p:=by omega
      refine ⟨p,hp0,by omega,fun i hi hdi => ?_,fun j hj hjd => ?_⟩
      · by_cases hia:i = a
        · subst hia;rw [setAt_same (by omega)]; exact hx
        · rw [setAt_other hia] at hdi ⊢;obtain ⟨k1,k2,k3⟩:=h2 i hi hdi;rw [k1];have:C.getD i 0 ≤ p:=by
            have k4:C.getD i 0 * ((m + 1:Nat):Int) ≤ p * ((m + 1:Nat):Int):=by rw [hp]; exact k2
            exact Int.le_of_mul_le_mul_right k4 (by omega)
          omega
      · have:=hm j hj (hop j hjd);omega
  · right;have hPp:P = p:=by
      rw [← hp] at h2;exact (Int.eq_of_mul_eq_mul_right (by omega) h2).symm
    subst hPp;have hxp:x = P:=by have:=h4 a ha hd; omega
    refine ⟨P,h1,by omega,fun i hi hdi => ?_,fun j hj hjd => h4 j hj (hop j hjd)⟩
    by_cases hia:i = a
    · subst hia;rw [setAt_same (by omega)]; exact hx
    · rw [setAt_other hia] at hdi ⊢;exact h3 i hi hdi
def EqOut (C:List Int) (E0:Int) (w:List Int):Prop:=w.length = C.length ∧ w.sum = E0 ∧ ∃ P,0 ≤ P ∧ ∀ i,i < C.length → w.getD i 0 = min (C.getD i 0) P
theorem EqI.done (h:EqI C E0 0 E w dn) (hC:∀ i,i < C.length → 0 ≤ C.getD i 0 ∧ C.getD i 0 ≤ 84000000) (hs:E0 ≤ C.sum):EqOut C E0 w:=by
  have hall:∀ i,i < C.length → dn.getD i false = true:=fun i hi => opn_zero h.cnt (by rw [h.dl]; exact hi)
  rcases h.ab with ⟨h1,h2⟩ | ⟨P,h1,h2,h3,h4⟩
  · have hw:w = C:=list_is (fun i => C.getD i 0) h.wl rfl (fun i hi => (h2 i hi (hall i hi)).1) (fun i hi => rfl)
    have h3:=h.sum;have h4:=h.e0;rw [hw] at h3;refine ⟨h.wl,by rw [hw]; omega,84000000,by omega,fun i hi => ?_⟩
    have:=hC i hi;rw [hw]; omega
  · have h5:=h.sum;have hz:E = 0:=by rw [h2]; simp
    exact ⟨h.wl,by omega,P,h1,fun i hi => h3 i hi (hall i hi)⟩
end eq
end Go.Proofs.YtpeoleimmabceaaGreat
