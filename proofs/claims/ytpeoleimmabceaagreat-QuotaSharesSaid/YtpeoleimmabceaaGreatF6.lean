/- All orders by who comes first: the reference's recursion is the program's. -/
import Derived.Test.YtpeoleimmabceaaGreatF5
set_option linter.unusedVariables false
set_option linter.unusedSimpArgs false
set_option linter.unusedSectionVars false

namespace Go.Proofs.YtpeoleimmabceaaGreat
open Go Go.AM

def outL (S n:Nat):List Nat:=(List.range n).filter fun j => !S.testBit j
theorem outL_nodup (S n:Nat):(outL S n).Nodup:=List.nodup_range.filter _
theorem outL_or (S n j:Nat):outL (S ||| 2 ^ j) n = (outL S n).filter fun i => decide (i ≠ j):=by
  unfold outL;rw [List.filter_filter];refine List.filter_congr fun i _ => ?_
  rw [or_bit]
  by_cases h:i = j
  · subst h; simp
  · rw [decide_eq_false (fun h' => h h'.symm),Bool.or_false,decide_eq_true h,Bool.true_and]
theorem sum_filt (b:Nat → Bool) (f:Nat → Int):∀ l:List Nat,(l.map fun k => if b k then 0 else f k).sum = ((l.filter fun k => !b k).map f).sum
  | [] => rfl
  | x :: t => by
    rw [List.map_cons,List.sum_cons,sum_filt b f t];cases hb:b x with
    | true => rw [List.filter_cons_of_neg (by simp [hb])]; simp
    | false => rw [List.filter_cons_of_pos (by simp [hb]),List.map_cons,List.sum_cons]; simp
def cutL (l:List Nat) (k:Nat):List Nat:=l.take k ++ l.drop (k + 1)
theorem cutL_len {l:List Nat} {k:Nat} (h:k < l.length):(cutL l k).length + 1 = l.length:=by
  unfold cutL; rw [List.length_append,List.length_take,List.length_drop]; omega
theorem cutL_mem {l:List Nat} {k x:Nat} (h:x ∈ cutL l k):x ∈ l:=by
  unfold cutL at h;rcases List.mem_append.1 h with h | h
  · exact List.mem_of_mem_take h
  · exact List.mem_of_mem_drop h
theorem cutL_filter {l:List Nat} (hn:l.Nodup) {k:Nat} (h:k < l.length):cutL l k = l.filter fun i => decide (i ≠ l.getD k 0):=by
  have hg:l.getD k 0 = l[k]:=by rw [List.getD_eq_getElem?_getD,List.getElem?_eq_getElem h]; rfl
  rw [hg];have hs:l = l.take k ++ l[k] :: l.drop (k + 1):=by rw [List.getElem_cons_drop,List.take_append_drop]
  have hn2:(l.take k ++ l[k] :: l.drop (k + 1)).Nodup:=by rw [← hs]; exact hn
  obtain ⟨_,h2,h3⟩:=List.nodup_append.1 hn2;have h4:=(List.nodup_cons.1 h2).1;have hf:(l.take k ++ l[k] :: l.drop (k + 1)).filter (fun i => decide (i ≠ l[k])) = cutL l k:=by
    rw [List.filter_append,List.filter_cons_of_neg (by simp)]
    unfold cutL;congr 1
    · exact List.filter_eq_self.2 fun x hx => decide_eq_true fun e => h3 x hx _ (List.mem_cons_self ..) e
    · exact List.filter_eq_self.2 fun x hx => decide_eq_true fun e => h4 (e ▸ hx)
  rw [← hf];congr 1;exact hs.symm
theorem sum_cut {l:List Nat} (hn:l.Nodup) (F:Nat → List Nat → Int):((List.range l.length).map fun k => F (l.getD k 0) (cutL l k)).sum = (l.map fun j => F j (l.filter fun i => decide (i ≠ j))).sum:=by
  congr 1;apply List.ext_getElem?;intro k;rw [List.getElem?_map,List.getElem?_map]
  by_cases h:k < l.length
  · rw [List.getElem?_range h,List.getElem?_eq_getElem h,Option.map_some,Option.map_some,cutL_filter hn h];have hg:l.getD k 0 = l[k]:=by rw [List.getD_eq_getElem?_getD,List.getElem?_eq_getElem h]; rfl
    rw [hg]
  · rw [List.getElem?_eq_none (by simp; omega),List.getElem?_eq_none (by omega)]; rfl
def RSum (c:List Int):Nat → Int → List Nat → Nat → Int
  | 0,_,_,_ => 0
  | m + 1,e,l,i => ((List.range l.length).map fun k => (if l.getD k 0 = i then min e (c.getD i 0) * factN m else 0) + RSum c m (e - min e (c.getD (l.getD k 0) 0)) (cutL l k) i).sum
variable {c:List Int}
theorem RSum_nn (hp:∀ x ∈ c,0 ≤ x):∀ (m:Nat) (e:Int) (l:List Nat) (i:Nat),m < 8 → 0 ≤ e → i < c.length → (∀ x ∈ l,x < c.length) → l.length = m → 0 ≤ RSum c m e l i
  | 0,_,_,_,_,_,_,_,_ => Int.le_refl _
  | m + 1,e,l,i,h8,he,hi,hl,hlm => by
    unfold RSum;refine sum_nonneg fun x hx => ?_
    obtain ⟨k,hk,rfl⟩:=List.mem_map.1 hx;have hk:=List.mem_range.1 hk;have h1:=hp _ (Zabb (d:=0) hi);have h2:=hl _ (Zabb (d:=0) hk);have h3:=hp _ (Zabb (d:=0) h2);have h4:=RSum_nn hp m (e - min e (c.getD (l.getD k 0) 0)) (cutL l k) i (by omega) (by omega) hi (fun x hx => hl x (cutL_mem hx)) (by have:=cutL_len hk; omega)
    have h5:=(factN_small m (by omega)).1
    split
    · have:=Int.mul_nonneg (show 0 ≤ min e (c.getD i 0) by omega) (show 0 ≤ factN m by omega)
      omega
    · omega
theorem RSum_VR (h7:c.length < 8):∀ (m came:Nat) (e:Int) (tk:List Int) (i:Nat),came < 2 ^ c.length → cnt came c.length = m → tk.length = c.length → i < c.length → RSum c m e (outL came c.length) i = if came.testBit i then 0 else VR c m came e tk i
  | 0,came,e,tk,i,hc,hm,hl,hi => by
    have h1:=(cnt_zero _ h7 came hc).1 hm;have h2:came.testBit i = true:=by
      rw [h1,Nat.testBit_two_pow_sub_one]; exact decide_eq_true hi
    rw [h2]; rfl
  | m + 1,came,e,tk,i,hc,hm,hl,hi => by
    have e0:RSum c (m + 1) e (outL came c.length) i = ((outL came c.length).map fun j => (if j = i then min e (c.getD i 0) * factN m else 0) + RSum c m (e - min e (c.getD j 0)) ((outL came c.length).filter fun q => decide (q ≠ j)) i).sum:=by
      rw [← sum_cut (outL_nodup came c.length) (fun j l => (if j = i then min e (c.getD i 0) * factN m else 0) + RSum c m (e - min e (c.getD j 0)) l i)]
      simp only [RSum]
    have e1:VR c (m + 1) came e tk i = ((outL came c.length).map fun j => VR c m (came ||| 2 ^ j) (e - min (c.getD j 0) e) (tk.set j (min (c.getD j 0) e)) i).sum:=by
      simp only [VR];exact sum_filt _ _ _
    rw [e0,e1];cases hb:came.testBit i with
    | true =>
      simp only [if_true];have:∀ j ∈ outL came c.length,(if j = i then min e (c.getD i 0) * factN m else 0) + RSum c m (e - min e (c.getD j 0)) ((outL came c.length).filter fun q => decide (q ≠ j)) i = 0:=fun j hj => by
        obtain ⟨hj1,hj2⟩:=List.mem_filter.1 hj;have hj1:=List.mem_range.1 hj1;have hj2:came.testBit j = false:=by simpa using hj2
        have hji:j ≠ i:=fun e => by rw [e,hb] at hj2; cases hj2
        obtain ⟨k1,k2⟩:=cnt_or _ h7 came hc j hj1 hj2;rw [if_neg hji,← outL_or,RSum_VR h7 m (came ||| 2 ^ j) _ tk i k2 (by omega) hl hi,or_bit,hb]
        simp
      rw [List.map_congr_left this];exact sum_zero
    | false =>
      simp only [Bool.false_eq_true,if_false];congr 1;refine List.map_congr_left fun j hj => ?_
      obtain ⟨hj1,hj2⟩:=List.mem_filter.1 hj;have hj1:=List.mem_range.1 hj1;have hj2:came.testBit j = false:=by simpa using hj2
      obtain ⟨k1,k2⟩:=cnt_or _ h7 came hc j hj1 hj2;rw [← outL_or,RSum_VR h7 m (came ||| 2 ^ j) _ (tk.set j (min (c.getD j 0) e)) i k2 (by omega) (by simp [hl]) hi,or_bit,hb,Int.min_comm e,Int.min_comm e]
      by_cases hji:j = i
      · subst hji;have hb2:(came ||| 2 ^ j).testBit j = true:=by rw [or_bit]; simp
        rw [if_pos rfl,(VR_bound c h7 m _ _ _ j k2 (by omega) hi (by simp [hl])).1 hb2,set_getD (by omega),if_pos rfl,DR_eq h7 m _ k2 (by omega)]
        simp [Int.mul_comm]
      · rw [if_neg hji];simp [hji]
theorem outL_zero (n:Nat):outL 0 n = List.range n:=by
  unfold outL;exact List.filter_eq_self.2 fun x _ => by simp
theorem RSum_run (h7:c.length < 8) (e:Int) {i:Nat} (hi:i < c.length):RSum c c.length e (List.range c.length) i = RunV e c i:=by
  have h:=RSum_VR h7 c.length 0 e (zeros c.length) i (Nat.two_pow_pos _) (cnt_all _) (by simp [zeros]) hi
  rw [outL_zero] at h;rw [h]; simp [RunV]
end Go.Proofs.YtpeoleimmabceaaGreat

namespace Go.Proofs.YtpeoleimmabceaaGreat
open Go Go.AM
set_option maxRecDepth 10000

def castN (l:List Nat):List Int:=l.map fun i:Nat => (i:Int)
theorem castN_len (l:List Nat):(castN l).length = l.length:=by simp [castN]
theorem castN_getD (l:List Nat) (k:Nat):(castN l).getD k 0 = ((l.getD k 0:Nat):Int):=by
  unfold castN;rw [List.getD_eq_getElem?_getD,List.getD_eq_getElem?_getD,List.getElem?_map];cases l[k]? <;> rfl
def ivs (w:List Int):List Value:=w.map fun z => .int .i64 z
theorem ones_ivs:∀ w:List Int,ones (ivs w) = true
  | [] => rfl
  | x :: w => ones_ivs w
theorem chunks_ivs {H:Heap} {w:List Int} (h:∀ z ∈ w,IntKind.i64.min ≤ z ∧ z ≤ IntKind.i64.max):Chunks (intE .i64) H w (ivs w):=by
  refine ⟨by simp [ivs,intE],fun i hi => ?_⟩
  have hz:(intE .i64).sz = 1:=rfl;rw [hz,Nat.mul_one];refine ⟨?_,h _ (Zabb hi)⟩;unfold ivs;rw [← List.map_drop,← List.map_take,List.drop_eq_getElem_cons hi,List.getD_eq_getElem?_getD,List.getElem?_eq_getElem hi];rfl
theorem ivs_chunks {H:Heap} {w:List Int} {cells:List Value} (h:Chunks (intE .i64) H w cells):cells = ivs w:=by
  obtain ⟨h1,h2⟩:=h;have hz:(intE .i64).sz = 1:=rfl;rw [hz,Nat.mul_one] at h1;apply List.ext_getElem?;intro i
  by_cases hi:i < w.length
  · obtain ⟨h3,_⟩:=h2 i hi;rw [hz,Nat.mul_one] at h3;have h4:=congrArg (fun l => l[0]?) h3
    unfold ivs;rw [List.getElem?_map,List.getElem?_eq_getElem hi];simp only [List.getElem?_take,List.getElem?_drop,Nat.add_zero] at h4;rw [List.getD_eq_getElem?_getD,List.getElem?_eq_getElem hi] at h4
    simpa using h4
  · rw [List.getElem?_eq_none (by omega),List.getElem?_eq_none (by simp [ivs]; omega)]
theorem lst_keepX {x L:Nat} {H H':Heap} {v:Value} {w:List Int} (h:LstG (intE .i64) 3 L H v w) (hk:KeepX x H H') (hL:x < L):LstG (intE .i64) 3 L H' v w:=by
  rcases h with h | ⟨b,r,cells,h1,h2,h3,h4,h5,h6,h7⟩
  · exact .inl h
  · have hm:=hk.mem (2 * b + 1) (by omega)
    refine .inr ⟨b,r,cells,h1,Nat.lt_of_lt_of_le h2 hk.size,⟨?_,by rw [hm]; exact h3.mem,Nat.lt_of_lt_of_le h3.lt hk.size,h3.ge⟩,fun q hq => ?_,h5,h6,h7⟩
    · exact (hk.row r _ (by have:=h3.ge; omega) h3.lt h3.get).1
    · rw [hm] at hq;obtain ⟨row,k1,k2,k3,k4,k5⟩:=h4 q hq;exact ⟨row,(hk.row q row (by omega) k4 k1).1,k2,k3,Nat.lt_of_lt_of_le k4 hk.size,k5⟩
theorem sl_keepX {x:Nat} {H H':Heap} {v:Value} {w:List Int} {r o:Nat} (h:SlI .i64 H v w r o) (hk:KeepX x H H') (hr:0 < w.length → r ≠ x):SlI .i64 H' v w r o where
  isv:=h.isv
  rd:=fun i hi => by
    obtain ⟨es,h1,h2⟩:=h.rd i hi;refine ⟨es,?_,h2⟩;obtain ⟨row,g1,g2,g3,g4⟩:=read_inv h1;obtain ⟨k1,k2⟩:=hk.row r row (hr (by omega)) (h.lt (by omega)) g1
    unfold Heap.read at h1 ⊢;rw [g1] at h1;rw [k1];simp only [k2] at h1 ⊢;exact h1
  lt:=fun h0 => Nat.lt_of_lt_of_le (h.lt h0) hk.size
  ml:=h.ml
theorem infI1:∃ i,Tryz.prog.info? 3 = some i ∧ i.size = 1:=Option.map_eq_some_iff.1 (show (Tryz.prog.info? 3).map (·.size) = some 1 by kernel_rfl)
theorem afirst_row {H:Heap} {r o n c:Nat} {l:List Value} (h:0 < n → H.read r o n = some l) (h0:n = 0 → l = []):aFirst H 1 n (.slice (some ⟨r,o,none⟩) n c) = some l:=by
  show cond (Nat.beq (n * 1) 0) (some []) (H.read r o (n * 1)) = some l;rw [Nat.mul_one];rcases Nat.eq_zero_or_pos n with hn | hn
  · rw [h0 hn,hn]; rfl
  · rw [Trie.beq_ff (by omega),cond_false]; exact h hn
theorem lst_parts {L:Nat} {H:Heap} {v:Value} {w:List Int} (h:LstG (intE .i64) 3 L H v w) {k:Nat} (hk:k < w.length) :
    ∃ x y,aSlice Tryz.prog H 22 v none (some (.int .i64 (k:Int))) none = some x ∧ lenV x = some k ∧ aFirst H 1 k x = some (ivs (w.take k)) ∧
      aSlice Tryz.prog H 22 v (some (.int .i64 ((k + 1:Nat):Int))) none none = some y ∧ lenV y = some (w.length - (k + 1)) ∧ aFirst H 1 (w.length - (k + 1)) y = some (ivs (w.drop (k + 1))):=by
  rcases h with ⟨h,_⟩ | ⟨b,r,cells,h1,h2,h3,h4,h5,h6,h7⟩
  · rw [h] at hk; cases hk
  have hc:=ivs_chunks h7;have hcl:cells.length = w.length:=by rw [hc]; simp [ivs]
  obtain ⟨i,hi,hsz⟩:=infI1;have b1:aBounds w.length w.length none (some (.int .i64 (k:Int))) none = some (0,k,w.length):=by
    unfold aBounds aBound;have g1:(0:Int) ≤ (k:Int) ∧ (k:Int) ≤ (w.length:Int):=by omega
    simp [g1]
  have b2:aBounds w.length w.length (some (.int .i64 ((k + 1:Nat):Int))) none none = some (k + 1,w.length,w.length):=by
    unfold aBounds aBound;have g1:(0:Int) ≤ ((k + 1:Nat):Int) ∧ ((k + 1:Nat):Int) ≤ (w.length:Int):=by omega
    simp only [g1,and_self,if_true,Int.toNat_natCast]
  have hrd:∀ o n,o + n ≤ cells.length → H.read r o n = some ((cells.drop o).take n):=fun o n hon => by
    unfold Heap.read;rw [h3.get];simp only [];rw [h3.alive,show Nat.ble (o + n) cells.length = true from Nat.ble_eq_true_of_le hon]
    rfl
  have hesz:(intE .i64).sz = 1:=rfl;refine ⟨.slice (some ⟨r,0,none⟩) k w.length,.slice (some ⟨r,k + 1,none⟩) (w.length - (k + 1)) (w.length - (k + 1)),?_,rfl,?_,?_,rfl,?_⟩
  · rw [h5];unfold aSlice;rw [Tryz.underlying22];simp only [];rw [hi,h3.get,b1];simp only [hesz,hsz,Nat.zero_mul,Nat.add_zero,Nat.sub_zero];rw [show Nat.ble w.length w.length = true from Nat.ble_eq_true_of_le (Nat.le_refl _)]
    rfl
  · refine afirst_row (fun _ => ?_) fun hz => by rw [hz]; rfl
    rw [hrd 0 k (by omega),List.drop_zero,hc]
    unfold ivs;rw [List.map_take]
  · rw [h5];unfold aSlice;rw [Tryz.underlying22];simp only [];rw [hi,h3.get,b2];simp only [hesz,hsz,Nat.mul_one,Nat.zero_add];rw [show Nat.ble w.length w.length = true from Nat.ble_eq_true_of_le (Nat.le_refl _)]
    rfl
  · refine afirst_row (fun _ => ?_) fun hz => by rw [List.drop_of_length_le (by omega)]; rfl
    rw [hrd (k + 1) _ (by omega),hc]
    unfold ivs;rw [List.map_drop,List.take_of_length_le (by simp)]
end Go.Proofs.YtpeoleimmabceaaGreat
