/- A general tool, which names no program: digits of whole numbers of a canonical machine for the model's own code, proved: what it comes to is what every run comes to. -/
import Derived.Test.YtcmaipijkjillaaDoorGj
set_option linter.unusedVariables false
set_option linter.unusedSimpArgs false
set_option linter.unusedSectionVars false

namespace Go.AM

/-! Digits to the base 10000,the lowest first. -/
def val:List Int → Int
  | [] => 0
  | d :: l => d + 10000 * val l
def Digs (l:List Int):Prop:=∀ x ∈ l,0 ≤ x ∧ x ≤ 9999
def Norm (l:List Int):Prop:=l = [] ∨ l.getD (l.length - 1) 0 ≠ 0
def Dg (l:List Int) (n:Nat):Prop:=Digs l ∧ Norm l ∧ val l = n

theorem val_append (a b:List Int):val (a ++ b) = val a + 10000 ^ a.length * val b:=by
  induction a with
  | nil => simp [val]
  | cons d l ih =>
    simp only [List.cons_append,val,ih,List.length_cons,Int.pow_succ];rw [Int.mul_add,← Int.mul_assoc,Int.mul_comm 10000 ((10000:Int) ^ l.length)];omega
theorem Digs.tail {d:Int} {l:List Int} (h:Digs (d :: l)):Digs l:=fun x hx => h x (by simp [hx])
theorem Digs.nonneg:∀ {l:List Int},Digs l → 0 ≤ val l
  | [],_ => by simp [val]
  | d :: l,h => by
    have h1:=h d (by simp)
    have h2:=Digs.nonneg h.tail;simp only [val]; omega
theorem Digs.append {a b:List Int} (h:Digs a) (k:Digs b):Digs (a ++ b):=fun x hx => by
  rcases List.mem_append.1 hx with h1 | h1
  · exact h x h1
  · exact k x h1
theorem Digs.one {d:Int} (h:0 ≤ d ∧ d ≤ 9999):Digs [d]:=fun x hx => by rw [List.mem_singleton.1 hx]; exact h
theorem Digs.lt {l:List Int} (h:Digs l):val l < 10000 ^ l.length:=by
  induction l with
  | nil => simp [val]
  | cons d l ih =>
    have h1:=h d (by simp)
    have h2:=ih h.tail;simp only [val,List.length_cons,Int.pow_succ];omega
theorem Digs.getD {l:List Int} (h:Digs l) (i:Nat):0 ≤ l.getD i 0 ∧ l.getD i 0 ≤ 9999:=by
  rw [List.getD_eq_getElem?_getD];cases e:l[i]? with
  | none => simp
  | some x => simpa using h x (List.mem_of_getElem? e)

def trimN (l:List Int):Nat → Nat
  | 0 => 0
  | n + 1 => if l.getD n 0 = 0 then trimN l n else n + 1
def trimL (l:List Int):List Int:=l.take (trimN l l.length)
theorem trimN_le (l:List Int):∀ n,trimN l n ≤ n
  | 0 => Nat.le_refl _
  | n + 1 => by
    unfold trimN;split
    · exact Nat.le_succ_of_le (trimN_le l n)
    · exact Nat.le_refl _
theorem trimN_zero (l:List Int):∀ n i,trimN l n ≤ i → i < n → l.getD i 0 = 0
  | 0,_,_,h => absurd h (Nat.not_lt_zero _)
  | n + 1,i,h,h2 => by
    unfold trimN at h;split at h
    · rename_i h0;rcases Nat.lt_or_ge i n with h3 | h3
      · exact trimN_zero l n i h h3
      · rw [show i = n by omega]; exact h0
    · omega
theorem trimN_last (l:List Int):∀ n,trimN l n = 0 ∨ l.getD (trimN l n - 1) 0 ≠ 0
  | 0 => .inl rfl
  | n + 1 => by
    unfold trimN;split
    · exact trimN_last l n
    · rename_i h;exact .inr (by simpa using h)
theorem trimL_len (l:List Int):(trimL l).length = trimN l l.length:=by
  unfold trimL; rw [List.length_take]; have:=trimN_le l l.length; omega
theorem val_take {l:List Int}:∀ {n:Nat},n ≤ l.length → (∀ i,n ≤ i → i < l.length → l.getD i 0 = 0) → val (l.take n) = val l:=by
  induction l with
  | nil => intro n _ _; simp
  | cons d l ih =>
    intro n hn hz;cases n with
    | zero =>
      have h0:=hz 0 (Nat.le_refl _) (by simp)
      have h1:=ih (n:=0) (Nat.zero_le _) (fun i _ hi => by simpa using hz (i + 1) (by omega) (by simpa using hi))
      simp only [List.take_zero,val] at h1 ⊢;simp at h0;rw [← h1,h0]; simp
    | succ n =>
      have h1:=ih (n:=n) (by simpa using hn) (fun i h hi => by simpa using hz (i + 1) (by omega) (by simpa using hi))
      simp only [List.take_succ_cons,val,h1]
theorem trimL_val (l:List Int):val (trimL l) = val l:=val_take (trimN_le _ _) (trimN_zero l l.length)
theorem trimL_digs {l:List Int} (h:Digs l):Digs (trimL l):=fun x hx => h x (List.mem_of_mem_take hx)
theorem trimL_norm (l:List Int):Norm (trimL l):=by
  unfold Norm;rw [trimL_len];rcases trimN_last l l.length with h | h
  · left; unfold trimL; rw [h]; rfl
  · right;have h1:=trimN_le l l.length;have h2:0 < trimN l l.length:=by
      rcases Nat.eq_zero_or_pos (trimN l l.length) with h0 | h0
      · exfalso;rw [h0] at h;cases l with
        | nil => simp at h
        | cons d l =>
          have:=trimN_zero (d :: l) (d :: l).length 0 (by omega) (by simp)
          exact h (by simpa using this)
      · exact h0
    unfold trimL;rw [List.getD_eq_getElem?_getD,List.getElem?_take,if_pos (by omega),← List.getD_eq_getElem?_getD]
    exact h
theorem trimL_dg {l:List Int} (h:Digs l):Dg (trimL l) (val l).toNat:=⟨trimL_digs h,trimL_norm l,by rw [trimL_val,Int.toNat_of_nonneg h.nonneg]⟩
theorem trimL_le (l:List Int):(trimL l).length ≤ l.length:=by rw [trimL_len]; exact trimN_le _ _

theorem Dg.len {l:List Int} {n k:Nat} (h:Dg l n) (hn:n < 10000 ^ k):l.length ≤ k:=by
  obtain ⟨hd,hN,hv⟩:=h;rcases hN with rfl | hN
  · exact Nat.zero_le _
  · rcases Nat.lt_or_ge k l.length with hk | hk
    · exfalso;have hpos:0 < l.length:=by omega
      have h1:l.length - 1 < l.length:=by omega
      have hs:l = l.take (l.length - 1) ++ [l.getD (l.length - 1) 0]:=by
        have h2:=List.take_append_drop (l.length - 1) l;rw [List.drop_eq_getElem_cons h1,List.drop_of_length_le (by omega)] at h2
        rw [List.getD_eq_getElem?_getD,List.getElem?_eq_getElem h1];exact h2.symm
      have hd2:Digs (l.take (l.length - 1)):=fun x hx => hd x (List.mem_of_mem_take hx)
      have hlast:=hd.getD (l.length - 1);have h2:val l = val (l.take (l.length - 1)) + 10000 ^ (l.length - 1) * l.getD (l.length - 1) 0:=by
        conv => lhs; rw [hs]
        rw [val_append];simp only [val,List.length_take];rw [show min (l.length - 1) l.length = l.length - 1 by omega]
        simp
      have h3:=hd2.nonneg;have h4:(10000:Int) ^ (l.length - 1) ≤ 10000 ^ (l.length - 1) * l.getD (l.length - 1) 0:=by
        have h5:1 ≤ l.getD (l.length - 1) 0:=by omega
        have h6:(0:Int) ≤ 10000 ^ (l.length - 1):=Int.pow_nonneg (by omega)
        calc (10000:Int) ^ (l.length - 1) = 10000 ^ (l.length - 1) * 1:=by rw [Int.mul_one]
          _ ≤ _:=Int.mul_le_mul_of_nonneg_left h5 h6
      have hc:∀ q:Nat,(((10000:Nat) ^ q:Nat):Int) = (10000:Int) ^ q:=fun q => by rw [Int.natCast_pow]; rfl
      have h7:(10000:Int) ^ k ≤ 10000 ^ (l.length - 1):=by
        have:=Nat.pow_le_pow_right (show 0 < 10000 by omega) (show k ≤ l.length - 1 by omega)
        rw [← hc,← hc];exact Int.ofNat_le.2 this
      have h8:(n:Int) < 10000 ^ k:=by rw [← hc]; exact Int.ofNat_lt.2 hn
      omega
    · exact hk
theorem val_set {l:List Int}:∀ {j:Nat} (x:Int),j < l.length → val (l.set j x) = val l + 10000 ^ j * (x - l.getD j 0):=by
  induction l with
  | nil => intro j x h; simp at h
  | cons d l ih =>
    intro j x h;cases j with
    | zero => simp [val]; omega
    | succ j =>
      have h1:=ih (j:=j) x (by simpa using h)
      simp only [List.set_cons_succ,val,h1,List.getD_cons_succ,Int.pow_succ,Int.mul_add];rw [show (10000:Int) ^ j * 10000 * (x - l.getD j 0) = 10000 * (10000 ^ j * (x - l.getD j 0)) by rw [Int.mul_comm ((10000:Int) ^ j) 10000,Int.mul_assoc]]
      omega
theorem Digs.set {l:List Int} (h:Digs l) {j:Nat} {x:Int} (hx:0 ≤ x ∧ x ≤ 9999):Digs (l.set j x):=fun y hy => by
  rcases List.mem_or_eq_of_mem_set hy with h1 | h1
  · exact h y h1
  · rw [h1]; exact hx

/-! Comparing. -/
def cmpN (a b:List Int):Nat → Int
  | 0 => 0
  | n + 1 => if a.getD n 0 < b.getD n 0 then -1 else if b.getD n 0 < a.getD n 0 then 1 else cmpN a b n
def cmpL (a b:List Int):Int:=if a.length < b.length then -1 else if b.length < a.length then 1 else cmpN a b a.length
theorem val_split {l:List Int} {n:Nat} (h:n < l.length):val (l.take (n + 1)) = val (l.take n) + 10000 ^ n * l.getD n 0:=by
  rw [List.take_add_one,List.getElem?_eq_getElem h,val_append,List.length_take,Nat.min_eq_left (by omega),List.getD_eq_getElem?_getD,List.getElem?_eq_getElem h]
  simp [val]
theorem take_digs {l:List Int} (h:Digs l) (n:Nat):Digs (l.take n):=fun x hx => h x (List.mem_of_mem_take hx)
theorem take_lt {l:List Int} (h:Digs l) {n:Nat} (hn:n ≤ l.length):val (l.take n) < 10000 ^ n:=by
  have:=(take_digs h n).lt;rwa [List.length_take,Nat.min_eq_left hn] at this
theorem pow_pos' (n:Nat):(0:Int) < 10000 ^ n:=Int.pow_pos (by omega)
theorem dig_gap {p u v x y:Int} (hp:0 < p) (hu:0 ≤ u) (hu2:u < p) (hv:0 ≤ v) (hv2:v < p) (h:x < y):u + p * x < v + p * y:=by
  have h1:p * (x + 1) ≤ p * y:=Int.mul_le_mul_of_nonneg_left (by omega) (by omega)
  rw [Int.mul_add,Int.mul_one] at h1;omega
theorem cmpN_spec {a b:List Int} (ha:Digs a) (hb:Digs b):∀ n,n ≤ a.length → n ≤ b.length →
    cmpN a b n = if val (a.take n) < val (b.take n) then -1 else if val (b.take n) < val (a.take n) then 1 else 0
  | 0,_,_ => by simp [cmpN]
  | n + 1,h1,h2 => by
    have ih:=cmpN_spec ha hb n (by omega) (by omega)
    have ea:=val_split (l:=a) (n:=n) (by omega)
    have eb:=val_split (l:=b) (n:=n) (by omega)
    have pa:=(take_digs ha n).nonneg;have pb:=(take_digs hb n).nonneg;have la:=take_lt ha (n:=n) (by omega)
    have lb:=take_lt hb (n:=n) (by omega)
    have hp:=pow_pos' n;unfold cmpN;rw [ea,eb]
    by_cases c1:a.getD n 0 < b.getD n 0
    · rw [if_pos c1,if_pos (dig_gap hp pa la pb lb c1)]
    · by_cases c2:b.getD n 0 < a.getD n 0
      · have:=dig_gap hp pb lb pa la c2;rw [if_neg c1,if_pos c2,if_neg (by omega),if_pos this]
      · rw [if_neg c1,if_neg c2,ih,show a.getD n 0 = b.getD n 0 by omega]
        by_cases c3:val (a.take n) < val (b.take n)
        · rw [if_pos c3,if_pos (by omega)]
        · by_cases c4:val (b.take n) < val (a.take n)
          · rw [if_neg c3,if_pos c4,if_neg (by omega),if_pos (by omega)]
          · rw [if_neg c3,if_neg c4,if_neg (by omega),if_neg (by omega)]
theorem Dg.ge {l:List Int} {n:Nat} (h:Dg l n) (h0:0 < l.length):(10000:Int) ^ (l.length - 1) ≤ n:=by
  obtain ⟨hd,hN,hv⟩:=h;rcases hN with rfl | hN
  · simp at h0
  · have h1:=val_split (l:=l) (n:=l.length - 1) (by omega)
    rw [show l.length - 1 + 1 = l.length by omega,List.take_length] at h1
    have h2:=(take_digs hd (l.length - 1)).nonneg;have h3:=hd.getD (l.length - 1);have h4:(10000:Int) ^ (l.length - 1) * 1 ≤ 10000 ^ (l.length - 1) * l.getD (l.length - 1) 0:=Int.mul_le_mul_of_nonneg_left (by omega) (Int.le_of_lt (pow_pos' _))
    rw [Int.mul_one] at h4;omega
theorem pow_mono {a b:Nat} (h:a ≤ b):(10000:Int) ^ a ≤ 10000 ^ b:=by
  obtain ⟨c,rfl⟩:=Nat.le.dest h;rw [Int.pow_add];have h1:(10000:Int) ^ a * 1 ≤ 10000 ^ a * 10000 ^ c:=Int.mul_le_mul_of_nonneg_left (pow_pos' c) (Int.le_of_lt (pow_pos' a));rwa [Int.mul_one] at h1
theorem cmpL_spec {a b:List Int} {m n:Nat} (ha:Dg a m) (hb:Dg b n):cmpL a b = if m < n then -1 else if n < m then 1 else 0:=by
  unfold cmpL;have va:=ha.2.2;have vb:=hb.2.2
  by_cases h1:a.length < b.length
  · have h2:=hb.ge (by omega)
    have h3:=ha.1.lt;have h4:=pow_mono (show a.length ≤ b.length - 1 by omega)
    rw [if_pos h1,if_pos (by omega)]
  · by_cases h2:b.length < a.length
    · have h2':=ha.ge (by omega)
      have h3:=hb.1.lt;have h4:=pow_mono (show b.length ≤ a.length - 1 by omega)
      rw [if_neg h1,if_pos h2,if_neg (by omega),if_pos (by omega)]
    · have h3:=cmpN_spec ha.1 hb.1 a.length (Nat.le_refl _) (by omega)
      rw [if_neg h1,if_neg h2,h3,List.take_length,show a.length = b.length by omega,List.take_length,va,vb]
      by_cases h4:m < n
      · rw [if_pos (by omega),if_pos h4]
      · by_cases h5:n < m
        · rw [if_neg (by omega),if_pos (by omega),if_neg h4,if_pos h5]
        · rw [if_neg (by omega),if_neg (by omega),if_neg h4,if_neg h5]
theorem Dg.of {l:List Int} (h:Digs l) (hn:Norm l):Dg l (val l).toNat:=⟨h,hn,by rw [Int.toNat_of_nonneg h.nonneg]⟩
theorem cmpL_val {a b:List Int} (ha:Digs a) (hna:Norm a) (hb:Digs b) (hnb:Norm b):cmpL a b = if val a < val b then -1 else if val b < val a then 1 else 0:=by
  have h1:=ha.nonneg;have h2:=hb.nonneg;rw [cmpL_spec (Dg.of ha hna) (Dg.of hb hnb)]
  by_cases c1:val a < val b
  · rw [if_pos c1,if_pos (by omega)]
  · by_cases c2:val b < val a
    · rw [if_neg c1,if_pos c2,if_neg (by omega),if_pos (by omega)]
    · rw [if_neg c1,if_neg c2,if_neg (by omega),if_neg (by omega)]
theorem len_le {a b:List Int} (ha:Digs a) (hna:Norm a) (hb:Digs b) (h:val a ≤ val b):a.length ≤ b.length:=by
  rcases Nat.lt_or_ge b.length a.length with h1 | h1
  · exfalso;have h2:=(Dg.of ha hna).ge (by omega)
    rw [Int.toNat_of_nonneg ha.nonneg] at h2;have h3:=hb.lt;have h4:=pow_mono (show b.length ≤ a.length - 1 by omega)
    omega
  · exact h1
theorem norm_pos {b:List Int} (hb:Digs b) (hn:Norm b) (h0:0 < b.length):0 < val b:=by
  have h1:=(Dg.of hb hn).ge h0;rw [Int.toNat_of_nonneg hb.nonneg] at h1;have:=pow_pos' (b.length - 1);omega
theorem div_step {x R B Q lo A:Int} (hA:A = Q * B + R):x + 10000 * A = (lo + 10000 * Q) * B + (x + 10000 * R - B * lo):=by
  rw [hA,Int.mul_add,Int.add_mul,Int.mul_assoc 10000 Q B,Int.mul_comm lo B];omega
theorem set_drop {l:List Int} {i:Nat} {z:Int} (h:i < l.length):(l.set i z).drop i = z :: l.drop (i + 1):=by
  apply List.ext_getElem?;intro j;rw [List.getElem?_drop,List.getElem?_set];cases j with
  | zero => simp [h]
  | succ j => rw [if_neg (by omega)]; simp [List.getElem?_drop]; congr 1; omega
theorem drop_cons {l:List Int} {i:Nat} (h:i < l.length):l.drop i = l.getD i 0 :: l.drop (i + 1):=by
  rw [List.drop_eq_getElem_cons h,List.getD_eq_getElem?_getD,List.getElem?_eq_getElem h]; rfl
end Go.AM
