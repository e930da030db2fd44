/- RuleRun: what comes of all orders are shares. -/
import Derived.Test.YtpeoleimmabceaaGreatEC
set_option linter.unusedVariables false
set_option linter.unusedSimpArgs false
set_option linter.unusedSectionVars false

namespace Go.Proofs.YtpeoleimmabceaaGreat
open Go Go.AM
set_option maxRecDepth 10000

theorem sum_zero {l:List Nat}:(l.map fun _ => (0:Int)).sum = 0:=by
  induction l with
  | nil => rfl
  | cons a l ih => rw [List.map_cons,List.sum_cons,ih]; rfl
theorem sum_add (l:List Nat) (f g:Nat → Int):(l.map fun i => f i + g i).sum = (l.map f).sum + (l.map g).sum:=by
  induction l with
  | nil => rfl
  | cons x l ih => simp only [List.map_cons,List.sum_cons]; omega
theorem sum_comm (l m:List Nat) (f:Nat → Nat → Int):(l.map fun i => (m.map fun j => f i j).sum).sum = (m.map fun j => (l.map fun i => f i j).sum).sum:=by
  induction l with
  | nil => simp only [List.map_nil,List.sum_nil]; exact sum_zero.symm
  | cons x l ih => simp only [List.map_cons,List.sum_cons]; rw [sum_add,ih]
theorem sum_le_of {l:List Nat} {f g:Nat → Int} (h:∀ i ∈ l,f i ≤ g i):(l.map f).sum ≤ (l.map g).sum:=by
  induction l with
  | nil => exact Int.le_refl _
  | cons x l ih =>
    simp only [List.map_cons,List.sum_cons];have:=h x (List.mem_cons_self ..);have:=ih fun i hi => h i (List.mem_cons_of_mem _ hi)
    omega
theorem sum_mul_right (l:List Nat) (f:Nat → Int) (a:Int):(l.map fun i => f i * a).sum = (l.map f).sum * a:=by
  induction l with
  | nil => simp
  | cons x l ih => simp only [List.map_cons,List.sum_cons]; rw [ih,Int.add_mul]
theorem sum_one {n j:Nat} (hj:j < n) (f:Nat → Int) (x:Int):((List.range n).map fun i => if i = j then x else f i).sum = ((List.range n).map f).sum + x - f j:=by
  induction n with
  | zero => omega
  | succ n ih =>
    rw [List.range_succ,List.map_append,List.map_append,List.sum_append,List.sum_append];simp only [List.map_cons,List.map_nil,List.sum_cons,List.sum_nil];rcases Nat.lt_or_ge j n with h | h
    · rw [ih h,if_neg (by omega)]; omega
    · have:j = n:=by omega
      subst this;rw [if_pos rfl,sum_congr (g:=f) fun i hi => if_neg (by omega)]
      omega
def factN:Nat → Int
  | 0 => 1
  | n + 1 => ((n + 1:Nat):Int) * factN n
theorem sum_out (s:Nat) (a:Int) (l:List Nat):(l.map fun j => if s.testBit j then 0 else a).sum = ((l.filter fun j => !s.testBit j).length:Int) * a:=by
  induction l with
  | nil => simp
  | cons x l ih =>
    rw [List.map_cons,List.sum_cons,ih];cases hb:s.testBit x with
    | true => rw [List.filter_cons_of_neg (by simp [hb])]; simp
    | false => rw [List.filter_cons_of_pos (by simp [hb]),List.length_cons,Int.natCast_add,Int.add_mul]; simp; omega
theorem DR_eq {n:Nat} (h7:n < 8):∀ (m s:Nat),s < 2 ^ n → cnt s n = m → DR n m s = factN m
  | 0,s,_,_ => by simp only [DR,factN]
  | m + 1,s,hs,hm => by
    simp only [DR,factN];have h1:((List.range n).map fun j => if s.testBit j then 0 else DR n m (s ||| 2 ^ j)).sum = ((List.range n).map fun j => if s.testBit j then 0 else factN m).sum:=sum_congr fun j hj => by
      cases hb:s.testBit j with
      | true => rfl
      | false =>
        obtain ⟨k1,k2⟩:=cnt_or _ h7 s hs j hj hb;simp only [Bool.false_eq_true,if_false];exact DR_eq h7 m _ k2 (by omega)
    rw [h1,sum_out];unfold cnt at hm;rw [hm]
theorem factN_small:∀ n,n < 8 → 1 ≤ factN n ∧ factN n ≤ 5040:=by decide
theorem DR_fact (n:Nat) (h:n < 8):1 ≤ DR n n 0 ∧ DR n n 0 ≤ 5040:=by
  have h1:cnt 0 n = n:=by
    unfold cnt;rw [List.filter_eq_self.2 (fun a _ => by simp),List.length_range]
  rw [DR_eq h n 0 (Nat.two_pow_pos n) h1];exact factN_small n h
theorem VR_bound (c:List Int) (h7:c.length < 8):∀ (m came:Nat) (left:Int) (t:List Int) (i:Nat),came < 2 ^ c.length → cnt came c.length = m → i < c.length → t.length = c.length →
    (came.testBit i = true → VR c m came left t i = DR c.length m came * t.getD i 0) ∧ (came.testBit i = false → VR c m came left t i ≤ DR c.length m came * c.getD i 0)
  | 0,came,left,t,i,hc,hm,hi,l1 => by
    have h1:=(cnt_zero _ h7 came hc).1 hm;have h2:came.testBit i = true:=by rw [h1,Nat.testBit_two_pow_sub_one]; exact decide_eq_true hi
    exact ⟨fun _ => by unfold VR DR; omega,fun h => by rw [h2] at h; cases h⟩
  | m + 1,came,left,t,i,hc,hm,hi,l1 => by
    have key:∀ j,j < c.length → came.testBit j = false → _:=fun j hj hb => by
      obtain ⟨k1,k2⟩:=cnt_or _ h7 came hc j hj hb;exact VR_bound c h7 m (came ||| 2 ^ j) (left - min (c.getD j 0) left) (t.set j (min (c.getD j 0) left)) i k2 (by omega) hi (by simp [l1])
    constructor
    · intro hbi;unfold VR DR;rw [← sum_mul_right];refine sum_congr fun j hj => ?_
      cases hb:came.testBit j with
      | true => simp
      | false =>
        simp only [Bool.false_eq_true,if_false];rw [(key j hj hb).1 (by rw [or_bit,hbi]; rfl),set_getD (by omega),if_neg (fun h => by rw [← h,hbi] at hb; cases hb)]
    · intro hbi;unfold VR DR;rw [← sum_mul_right];refine sum_le_of fun j hj => ?_
      have hj:=List.mem_range.1 hj;cases hb:came.testBit j with
      | true => simp
      | false =>
        simp only [Bool.false_eq_true,if_false]
        by_cases hij:i = j
        · subst hij;rw [(key i hj hb).1 (by rw [or_bit]; simp),set_getD (by omega),if_pos rfl]
          exact Int.mul_le_mul_of_nonneg_left (by omega) (DR_nonneg _ _ _)
        · exact (key j hj hb).2 (by rw [or_bit,hbi]; simp; omega)
def inS (came n:Nat) (t:List Int):Int:=((List.range n).map fun i => if came.testBit i then t.getD i 0 else 0).sum
def outS (came n:Nat) (c:List Int):Int:=((List.range n).map fun i => if came.testBit i then 0 else c.getD i 0).sum
theorem inS_or {came n j:Nat} {t:List Int} {x:Int} (hj:j < n) (hl:t.length = n) (hb:came.testBit j = false):inS (came ||| 2 ^ j) n (t.set j x) = inS came n t + x:=by
  unfold inS;have h:=sum_one hj (fun i => if came.testBit i then t.getD i 0 else 0) x
  rw [hb] at h;simp only [Bool.false_eq_true,if_false,Int.sub_zero] at h;rw [← h];refine sum_congr fun i hi => ?_
  rw [or_bit,set_getD (by omega)]
  by_cases hij:i = j
  · subst hij; simp
  · rw [if_neg hij,if_neg hij,decide_eq_false (fun h => hij h.symm),Bool.or_false]
theorem outS_or {came n j:Nat} {c:List Int} (hj:j < n) (hb:came.testBit j = false):outS (came ||| 2 ^ j) n c = outS came n c - c.getD j 0:=by
  unfold outS;have h:=sum_one hj (fun i => if came.testBit i then 0 else c.getD i 0) 0
  rw [hb] at h;simp only [Bool.false_eq_true,if_false,Int.add_zero] at h;rw [← h];refine sum_congr fun i hi => ?_
  rw [or_bit]
  by_cases hij:i = j
  · subst hij; simp
  · rw [if_neg hij,decide_eq_false (fun h => hij h.symm),Bool.or_false]
theorem VR_sum (c:List Int) (h7:c.length < 8) (hp:∀ x ∈ c,0 ≤ x):∀ (m came:Nat) (left:Int) (t:List Int),came < 2 ^ c.length → cnt came c.length = m → t.length = c.length → 0 ≤ left → left ≤ outS came c.length c →
    ((List.range c.length).map fun i => VR c m came left t i).sum = DR c.length m came * (inS came c.length t + left)
  | 0,came,left,t,hc,hm,l1,h0,hl => by
    have h1:=(cnt_zero _ h7 came hc).1 hm;have h2:∀ i,i < c.length → came.testBit i = true:=fun i hi => by rw [h1,Nat.testBit_two_pow_sub_one]; exact decide_eq_true hi
    have h3:outS came c.length c = 0:=by
      unfold outS;rw [sum_congr (g:=fun _ => 0) fun i hi => by rw [h2 i hi]; rfl,sum_zero]
    have h4:inS came c.length t = ((List.range c.length).map fun i => VR c 0 came left t i).sum:=by
      unfold inS VR;exact sum_congr fun i hi => by rw [h2 i hi]; rfl
    rw [h4];unfold DR;omega
  | m + 1,came,left,t,hc,hm,l1,h0,hl => by
    have e1:((List.range c.length).map fun i => VR c (m + 1) came left t i).sum = ((List.range c.length).map fun i => ((List.range c.length).map fun j => if came.testBit j then 0 else VR c m (came ||| 2 ^ j) (left - min (c.getD j 0) left) (t.set j (min (c.getD j 0) left)) i).sum).sum:=by
      simp only [VR]
    rw [e1,sum_comm];unfold DR;rw [← sum_mul_right];refine sum_congr fun j hj => ?_
    cases hb:came.testBit j with
    | true => simp only [if_true,Int.zero_mul]; exact sum_zero
    | false =>
      obtain ⟨k1,k2⟩:=cnt_or _ h7 came hc j hj hb;have hcj:=hp _ (Zabb (d:=0) hj);have ho:=outS_or (c:=c) hj hb;have hon:0 ≤ outS (came ||| 2 ^ j) c.length c:=by
        unfold outS;refine sum_nonneg fun x hx => ?_
        obtain ⟨i,hi,rfl⟩:=List.mem_map.1 hx;split
        · omega
        · exact hp _ (Zabb (List.mem_range.1 hi))
      simp only [Bool.false_eq_true,if_false];rw [VR_sum c h7 hp m _ _ _ k2 (by omega) (by simp [l1]) (by omega) (by omega),inS_or hj l1 hb]
      congr 1;omega
theorem cnt_all (n:Nat):cnt 0 n = n:=by
  unfold cnt;rw [List.filter_eq_self.2 (fun a _ => by simp),List.length_range]
def zeros (n:Nat):List Int:=List.replicate n 0
theorem zeros_at (n i:Nat):(zeros n).getD i 0 = 0:=by
  unfold zeros;rw [List.getD_eq_getElem?_getD,List.getElem?_replicate];split <;> rfl
def RunV (e:Int) (c:List Int) (i:Nat):Int:=VR c c.length 0 e (zeros c.length) i
def RunR (e:Int) (c w:List Int) (d:Int):Prop:=∀ i,i < c.length → w.getD i 0 * DR c.length c.length 0 = RunV e c i * d
theorem runR_sc:ScR RunR:=by
  intro e c g w d w' d' h hl k i hi;have h1:w.getD i 0 * DR c.length c.length 0 = RunV e c i * d:=k i hi;have hg:=h.pos;rw [h.at' i (by rw [hl]; exact hi),h.d,Int.mul_assoc,Int.mul_left_comm _ g] at h1
  exact Int.eq_of_mul_eq_mul_left (Int.ne_of_gt hg) h1
theorem run_good {e:Int} {c:List Int} (hp:Q.Prob e c) {w:List Int} (hl:w.length = c.length) (hw:∀ i,i < c.length → w.getD i 0 = RunV e c i):Good e c w (DR c.length c.length 0) ∧ RunR e c w (DR c.length c.length 0):=by
  have h7:c.length < 8:=by have:=hp.2.1; omega
  have hc:=hp.2.2.1;have hd:=DR_fact _ h7;have hz:(zeros c.length).length = c.length:=by simp [zeros]
  have hpow:0 < 2 ^ c.length:=Nat.two_pow_pos _;refine ⟨⟨hl,hd.1,by omega,fun i hi => ?_,?_⟩,fun i hi => by rw [hw i hi]⟩
  · rw [hw i hi,Int.mul_comm (c.getD i 0)];refine ⟨VR_nonneg c h7 (fun x hx => (hc x hx).1) _ _ _ _ i hpow (cnt_all _) hi hz hp.1.1 fun j _ hb => by simp at hb,?_⟩
    exact (VR_bound c h7 c.length 0 e _ i hpow (cnt_all _) hi hz).2 (by simp)
  · rw [sum_range w,hl,sum_congr hw]
    have h1:=VR_sum c h7 (fun x hx => (hc x hx).1) c.length 0 e (zeros c.length) hpow (cnt_all _) hz hp.1.1 (by
      unfold outS;have h2:=hp.2.2.2;rw [sum_range c] at h2;rw [sum_congr (g:=fun i => c.getD i 0) fun i _ => by simp]
      exact h2)
    have h2:inS 0 c.length (zeros c.length) = 0:=by
      unfold inS;rw [sum_congr (g:=fun _ => 0) fun i _ => by simp,sum_zero]
    rw [h2,Int.zero_add,Int.mul_comm] at h1;exact h1

theorem alF2 (H:Heap):aAlloc Tryz.prog H 82 = some (.pointer (some ⟨H.size,0,none⟩),H.newExact [.nilFunc] 82):=by kernel_rfl
theorem alIs (H:Heap):aAlloc Tryz.prog H 22 = some (.pointer (some ⟨H.size,0,none⟩),H.newExact [.slice none 0 0] 22):=by kernel_rfl
theorem bdPn (a:Option Addr) (n c:Nat):aBuild Tryz.prog 26 [(0,.slice a n c)] = some (.agg ⟨[.slice a n c,.int .i64 0]⟩):=by kernel_rfl
theorem infoF2:∃ i,Tryz.prog.info? 82 = some i ∧ i.size = 1:=Option.map_eq_some_iff.1 (show (Tryz.prog.info? 82).map (·.size) = some 1 by kernel_rfl)
theorem infoIs:∃ i,Tryz.prog.info? 22 = some i ∧ i.size = 1:=Option.map_eq_some_iff.1 (show (Tryz.prog.info? 22).map (·.size) = some 1 by kernel_rfl)

variable {S:AM.Sys} (hS:Only S 5)
include hS

set_option maxHeartbeats 8000000 in
theorem run_runs (e:Int) (v:Value) (c:List Int) (r o:Nat) (H:Heap) (hg:Grp H) (hL:H.low ≤ H.size) (hl:SlI .i64 H v c r o) (hp:Q.Prob e c) :
    ∃ u H',Runs Tryz.prog S (.fn 42) [.int .i64 e,v] H u H' ∧ Keep H H' ∧ ∃ w d,Good e c w d ∧ RunR e c w d ∧ PV H H' u w d:=by
  suffices h:WCall Tryz.prog S (.fn 42) [.int .i64 e,v] H (fun u H' => Keep H H' ∧ ∃ w d,Good e c w d ∧ RunR e c w d ∧ PV H H' u w d) by
    obtain ⟨u,H',hr,h⟩:=h; exact ⟨u,H',hr,h⟩
  have hc:=hp.2.2.1;have h7:c.length < 8:=by have:=hp.2.1; omega
  have hml:=hl.ml;obtain ⟨va,vc,rfl⟩:=hl.v0;obtain ⟨H1,e1,k1,s1,z1,-⟩:=box1 H [.slice va c.length vc] 22;have o1:Own H1 H.size 22 [.slice va c.length vc]:=e1 ▸ Own.new H _ _;obtain ⟨H2,e2,k2,s2,z2,-⟩:=box1 H1 [.slice none 0 0,.int .i64 0] 26;have o2:Own H2 H1.size 26 [.slice none 0 0,.int .i64 0]:=e2 ▸ Own.new H1 _ _;have al2:aAlloc Tryz.prog H1 26 = some (.pointer (some ⟨H1.size,0,none⟩),H2):=by rw [alP,e2]
  obtain ⟨H3,e3,k3,s3,z3,-⟩:=box1 H2 ((List.replicate c.length (0:Int)).map fun z => .int .i64 z) 3
  have o3:Own H3 H2.size 3 ((zeros c.length).map fun z => .int .i64 z):=e3 ▸ Own.new H2 _ _
  have mk3:=mkI H2 (l:=(c.length:Int)) (by omega) (by omega)
  rw [Int.toNat_natCast,e3] at mk3;obtain ⟨H4,e4,k4,s4,z4,-⟩:=box1 H3 [.slice none 0 0,.int .i64 0] 26;have o4:Own H4 H3.size 26 [.slice none 0 0,.int .i64 0]:=e4 ▸ Own.new H3 _ _;have al4:aAlloc Tryz.prog H3 26 = some (.pointer (some ⟨H3.size,0,none⟩),H4):=by rw [alP,e4]
  obtain ⟨H5,st5,o5,z5,r5,kk5⟩:=stP o4 rfl (some ⟨H2.size,0,none⟩) c.length c.length 0;obtain ⟨H6,e6,k6,s6,z6,-⟩:=box1 H5 ((List.replicate c.length (0:Int)).map fun z => .int .i64 z) 3
  have o6:Own H6 H5.size 3 ((zeros c.length).map fun z => .int .i64 z):=e6 ▸ Own.new H5 _ _
  have mk6:=mkI H5 (l:=(c.length:Int)) (by omega) (by omega)
  rw [Int.toNat_natCast,e6] at mk6;obtain ⟨H7,e7,k7,s7,z7,-⟩:=box1 H6 [.slice none 0 0] 22;have o7:Own H7 H6.size 22 [.slice none 0 0]:=e7 ▸ Own.new H6 _ _;have al7:aAlloc Tryz.prog H6 22 = some (.pointer (some ⟨H6.size,0,none⟩),H7):=by rw [alIs,e7]
  obtain ⟨i8,hi8,hs8⟩:=infoIs;obtain ⟨H8,st8,o8,z8,r8,kk8⟩:=o7.store (P:=Tryz.prog) (t:=22) hi8 (v:=.slice (some ⟨H5.size,0,none⟩) c.length c.length) (new:=[.slice (some ⟨H5.size,0,none⟩) c.length c.length]) rfl (hs8.trans rfl) rfl (o:=0) (show 0 + 1 ≤ 1 by omega)
  have o8:Own H8 H6.size 22 [.slice (some ⟨H5.size,0,none⟩) c.length c.length]:=o8;obtain ⟨H9,e9,k9,s9,z9,-⟩:=box1 H8 [.nilFunc] 82;have o9:Own H9 H8.size 82 [.nilFunc]:=e9 ▸ Own.new H8 _ _;have al9:aAlloc Tryz.prog H8 82 = some (.pointer (some ⟨H8.size,0,none⟩),H9):=by rw [alF2,e9]
  obtain ⟨i10,hi10,hs10⟩:=infoF2;obtain ⟨H10,st10,o10,z10,r10,kk10⟩:=o9.store (P:=Tryz.prog) (t:=82) hi10 (v:=.func (.func 69) #[] ⟨[.pointer (some ⟨H.size,0,none⟩),.pointer (some ⟨H6.size,0,none⟩),.pointer (some ⟨H3.size,0,none⟩),.pointer (some ⟨H8.size,0,none⟩)]⟩) (new:=[.func (.func 69) #[] ⟨[.pointer (some ⟨H.size,0,none⟩),.pointer (some ⟨H6.size,0,none⟩),.pointer (some ⟨H3.size,0,none⟩),.pointer (some ⟨H8.size,0,none⟩)]⟩]) rfl (hs10.trans rfl) rfl (o:=0) (show 0 + 1 ≤ 1 by omega)
  have o10:Own H10 H8.size 82 [.func (.func 69) #[] ⟨[.pointer (some ⟨H.size,0,none⟩),.pointer (some ⟨H6.size,0,none⟩),.pointer (some ⟨H3.size,0,none⟩),.pointer (some ⟨H8.size,0,none⟩)]⟩]:=o10;have K24:Keep H2 H4:=k3.trans k4;have K5:=kk5 H2 K24 (by omega)
  have K8:=kk8 H2 ((K5.trans k6).trans k7) (by have:=K5.size; have:=k6.size; omega)
  have K10:=kk10 H2 (K8.trans k9) K8.size;have q4:=k4.size;have q5:H5.size = H4.size:=z5;have q6:=k6.size;have q7:=k7.size;have q8:H8.size = H7.size:=z8;have q9:=k9.size;have p1:=r10 _ _ _ (by omega) ((r8 _ _ _ (by omega) (((r5 _ _ _ (by omega) (((o1.keep k2).keep k3).keep k4)).keep k6).keep k7)).keep k9)
  have p3:=r10 _ _ _ (by omega) ((r8 _ _ _ (by omega) (((r5 _ _ _ (by omega) (o3.keep k4)).keep k6).keep k7)).keep k9)
  have p5:=r10 _ _ _ (by omega) ((r8 _ _ _ (by omega) ((o5.keep k6).keep k7)).keep k9)
  have p6:=r10 _ _ _ (by omega) ((r8 _ _ _ (by omega) (o6.keep k7)).keep k9)
  have p8:=r10 _ _ _ (by omega) (o8.keep k9)
  have hz:(zeros c.length).length = c.length:=by simp [zeros]
  have rs:RS H2 H10 va c.length vc H.size H2.size H3.size H5.size H6.size H8.size (zeros c.length) (zeros c.length) 0:=⟨K10,by omega,p1,p3,p5,p6,p8,o10⟩
  have K02:=k1.trans k2;have hd:=DR_fact _ h7;have hpow:0 < 2 ^ c.length:=Nat.two_pow_pos _
  obtain ⟨H11,hR11,w,tk',rs11,hwl,_,_,hw⟩:=runC_runs hS H2 (K02.low hL) va vc H.size H2.size H3.size H5.size H6.size H8.size c r o (hl.keep K02) (by omega) hc c.length 0 e (zeros c.length) (zeros c.length) 0 H10 hpow (cnt_all _) hp.1 rs hz hz (fun j _ hb => by simp at hb) (fun i hi => by
    have h1:=(VR_bound c h7 c.length 0 e (zeros c.length) i hpow (cnt_all _) hi hz).2 (by simp)
    have h2:=hc _ (Zabb (d:=0) hi);have h3:DR c.length c.length 0 * c.getD i 0 ≤ 5040 * 100000:=Int.mul_le_mul hd.2 h2.2 h2.1 (by omega)
    rw [zeros_at];unfold BB
    omega) (by unfold BB; omega)
  have hw':∀ i,i < c.length → w.getD i 0 = RunV e c i:=fun i hi => by rw [hw i hi,zeros_at,Int.zero_add]; rfl
  obtain ⟨g1,g2⟩:=run_good hp hwl hw';rw [Int.zero_add] at rs11;have f11:∀ (K:Value → Heap → Prop) (bl:Blk K),sxCallB Tryz.prog S (.fn 69) [.int .i64 0,.int .i64 e,.pointer (some ⟨H.size,0,none⟩),.pointer (some ⟨H6.size,0,none⟩),.pointer (some ⟨H3.size,0,none⟩),.pointer (some ⟨H8.size,0,none⟩)] H10 K bl = K (packRes []) H11:=hR11.bx;obtain ⟨H12,st12,o12,z12,x12,k12⟩:=stPX (o2.keep rs11.keep) rfl (some ⟨H2.size,0,none⟩) c.length c.length (DR c.length c.length 0) (K02.trans rs11.keep) k1.size;have hrg:∀ z ∈ w,IntKind.i64.min ≤ z ∧ z ≤ IntKind.i64.max:=all_of (d:=0) fun i hi => by
    have h1:=g1.rng i (by omega)
    have h2:=hc _ (Zabb (l:=c) (k:=i) (d:=0) (by omega))
    have h3:c.getD i 0 * DR c.length c.length 0 ≤ 100000 * 5040:=Int.mul_le_mul h2.2 hd.2 (by omega) (by omega)
    have h5:IntKind.i64.min = -9223372036854775808:=rfl;have h6:IntKind.i64.max = 9223372036854775807:=rfl;omega
  have hsl:=Own.sl rs11.on hrg (by rw [hwl]; exact hml) c.length
  rw [hwl] at hsl;have hpv:PV H2 H11 (.agg ⟨[.slice (some ⟨H2.size,0,none⟩) c.length c.length,.int .i64 (DR c.length c.length 0)]⟩) w (DR c.length c.length 0):=⟨_,_,rfl,hsl,Nat.le_refl _⟩;have hpv2:=(hpv.x s2 x12).low (H0:=H) K02.size;have hfin:Keep H H12 ∧ ∃ w d,Good e c w d ∧ RunR e c w d ∧ PV H H12 (.agg ⟨[.slice (some ⟨H2.size,0,none⟩) c.length c.length,.int .i64 (DR c.length c.length 0)]⟩) w d:=⟨k12,w,_,g1,g2,hpv2⟩;have rd12:=(ownP o12).1;have rd11:=(ownP rs11.os).1;have rd1a:=(o1.read (o:=0) (n:=1) (show 0 + 1 ≤ 1 by omega))
  have y1:H2.read H.size 0 1 = some [.slice va c.length vc]:=(o1.keep k2).read (o:=0) (n:=1) (show 0 + 1 ≤ 1 by omega)
  have y5:H5.read H.size 0 1 = some [.slice va c.length vc]:=(r5 _ _ _ (by omega) (((o1.keep k2).keep k3).keep k4)).read (o:=0) (n:=1) (show 0 + 1 ≤ 1 by omega)
  have y10:H10.read H8.size 0 1 = some [.func (.func 69) #[] ⟨[.pointer (some ⟨H.size,0,none⟩),.pointer (some ⟨H6.size,0,none⟩),.pointer (some ⟨H3.size,0,none⟩),.pointer (some ⟨H8.size,0,none⟩)]⟩]:=o10.read (o:=0) (n:=1) (show 0 + 1 ≤ 1 by omega)
  have hny:notYield (.func 69) = true:=rfl;have e1':H.newExact (Value.slice va c.length vc).cells.toList 22 = H1:=e1;clear hl o1 o2 o3 o4 o5 o6 o7 o8 o9 o10 p1 p3 p5 p6 p8 rs rs11 hw hw' g1 g2 hrg hsl hpv hpv2 hp hc r5 r8 r10 kk5 kk8 kk10 K24 K5 K8 K10 x12 o12 hR11 hd e1 e2 e3 e4 e6 e7 e9 z5 z8 z10 q5 q8 z12 z1 z2 z3 z4 z6 z7 z9 hz hwl;refine Zaaw Tryz.func42 rfl (Nat.le_of_ble_eq_true rfl) (hS.no rfl _ _) ?_
  rw [Tryz.ntmps42,Tryz.results42]
  repeat' (first | simp only [↓Zabp,↓Zabr,↓Zabq,↓Zacj,↓Zaci,↓Zaco,↓Zaaq,↓Zaah,↓bxOp_box,↓bxOp_build,↓Zaap,↓Zaas,↓bxOp_makeFunc,↓bxOp_makeSlice,↓Zaat,↓Zaao,↓Zacl,↓bxPut,↓Zabk,↓Zabi,↓Zacm,↓Zaau,↓Zacp,↓Zaba,↓Zaay,Zack,Zabt,Zabg,List.map_cons,List.map_nil,List.nil_append,List.cons_append,↓reduceIte,Nat.reduceEqDiff,Nat.reduceLT,and_self,one1,Option.bind_some,Option.map_some, *,argF,List.getD_cons_zero,List.getD_cons_succ,lenI,ldIs,ldF2,ldP,bdPn,one1])
end Go.Proofs.YtpeoleimmabceaaGreat
