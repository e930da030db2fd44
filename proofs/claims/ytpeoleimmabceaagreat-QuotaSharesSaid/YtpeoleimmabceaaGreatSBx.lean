/- The length of a number in bits. -/
import Derived.Test.YtpeoleimmabceaaGreatE1
import Derived.Test.YtpeoleimmabceaaGreatGj
import Derived.Sort.LotD1
import Derived.Test.YtpeoleimmabceaaGreatE3
import Derived.Test.YtpeoleimmabceaaGreatS2J
set_option linter.unusedVariables false
set_option linter.unusedSimpArgs false
set_option linter.unusedSectionVars false

namespace Go.Proofs.YtpeoleimmabceaaGreat
open Go Go.AM
set_option maxRecDepth 10000
theorem sxOptB_tab {P:Program} {t:TypeId} {l:List UInt8} {K:Value → Prop} {b:Blk K} {x:Nat} (hstr:P.underlying t = some .string) (hl:Nat.beq l.length 256 = true) (ht:(List.range 256).all (fun y => Nat.beq (l.getD y 0).toNat (Sort.bitsLen y)) = true) (hx:x < 256) (hk:K (.int .u8 ((Sort.bitsLen x:Nat):Int))) :
    sxOptB (aIndex P t (.string ⟨l.toArray⟩) (.int .u8 (x:Int))) K b:=by
  have hll:=Nat.eq_of_beq_eq_true hl;have h1:=index_str (P:=P) (t:=t) hstr (l:=l) (k:=.u8) (i:=(x:Int)) (by omega) (by omega)
  have h2:(l.getD x 0).toNat = Sort.bitsLen x:=by
    have:=List.all_eq_true.1 ht x (List.mem_range.2 hx);exact Nat.eq_of_beq_eq_true this
  rw [Int.toNat_natCast,h2] at h1;have h3:aIndex P t (.string ⟨l.toArray⟩) (.int .u8 (x:Int)) = some (.int .u8 ((Sort.bitsLen x:Nat):Int)):=h1;rw [h3,Zack];exact hk
theorem cv64 (z:Int):aConv Tryz.prog 115 5 (.int .u64 z) = some (.int .u8 (IntKind.u8.wrap z)):=by kernel_rfl
theorem cv8 (z:Int):aConv Tryz.prog 5 3 (.int .u8 z) = some (.int .i64 (IntKind.i64.wrap z)):=by kernel_rfl
theorem bitsLen_256 {x:Nat} (h:256 ≤ x):Sort.bitsLen x = 8 + Sort.bitsLen (x / 256):=by
  have h1:=Sort.lt_two_pow_bitsLen (x / 256);have h2:=Sort.lt_two_pow_bitsLen x;apply Nat.le_antisymm
  · rw [Sort.bitsLen_le_iff,Nat.pow_add];have:(2:Nat) ^ 8 = 256:=rfl;rw [this];omega
  · have h9:¬ Sort.bitsLen x ≤ 8:=fun hh => by
      have:=(Sort.bitsLen_le_iff x 8).1 hh;have e:(2:Nat) ^ 8 = 256:=rfl;omega
    have h3:Sort.bitsLen (x / 256) ≤ Sort.bitsLen x - 8:=by
      rw [Sort.bitsLen_le_iff];have e:(2:Nat) ^ Sort.bitsLen x = 2 ^ (Sort.bitsLen x - 8) * 256:=by
        rw [show (256:Nat) = 2 ^ 8 from rfl,← Nat.pow_add]
        congr 1; omega
      rw [e] at h2;exact Nat.div_lt_of_lt_mul (by omega)
    omega
theorem bitsLen_16 {x:Nat} (h:x < 65536):Sort.bitsLen x ≤ 16:=(Sort.bitsLen_le_iff x 16).2 h
variable {S:AM.Sys} (hS:Only S 5)
include hS

theorem bLen64_runs (x:Nat) (hx:x < 65536) (H:Heap):Runs Tryz.prog S (.fn 91) [.int .u64 (x:Int)] H (.int .i64 (Sort.bitsLen x:Int)) H:=by
  suffices h:WCall Tryz.prog S (.fn 91) [.int .u64 (x:Int)] H (fun v H' => v = .int .i64 (Sort.bitsLen x:Int) ∧ H' = H) by
    obtain ⟨_,_,hr,rfl,rfl⟩:=h; exact hr
  refine Zaaw Tryz.func91 rfl (Nat.le_of_ble_eq_true rfl) (hS.no rfl _ _) ?_
  rw [Tryz.ntmps91,Tryz.results91];have h1:¬ (4294967296:Int) ≤ (x:Int):=by omega
  have h2:¬ (65536:Int) ≤ (x:Int):=by omega
  by_cases h3:x < 256
  · have h3':¬ (256:Int) ≤ (x:Int):=by omega
    have hb:=bitsLen_16 hx;have hw:IntKind.u8.wrap (x:Int) = (x:Int):=IntWalk.u8_in _ (by omega)
    have hw2:IntKind.i64.wrap ((Sort.bitsLen x:Nat):Int) = ((Sort.bitsLen x:Nat):Int):=IntWalk.i64_in _ (by omega)
    have hw3:IntKind.i64.wrap (0 + ((Sort.bitsLen x:Nat):Int)) = ((Sort.bitsLen x:Nat):Int):=by rw [Int.zero_add]; exact hw2
    repeat' (first | simp only [↓Zabs,↓Zabp,↓Zabr,↓Zaae,↓Zabq,↓Zacj,↓Zaci,↓Zaco,↓Zaaq,↓Zaaj,↓Zaak,↓bxOp_index,↓bxOp_convert,↓bxPut,↓Zabk,↓Zabi,↓Zacm,↓Zacn,↓Zacp,↓Zaba,↓Zaay,aConvH_int,Zack,Zaab,Zabd,Zacg,Zabg,↓reduceIte,Nat.reduceEqDiff,Nat.reduceLT,dec_F, *,argF,List.getD_cons_zero,cv64])
    refine sxOptB_tab Tryz.underlying9 (by kernel_rfl) (by kernel_rfl) h3 ?_
    repeat' (first | simp only [↓bxPut,↓Zacp,aConvH_int,Zack,Zaab,Zabd,↓reduceIte,Nat.reduceEqDiff,Nat.reduceLT,and_self, *,cv8])
  · have h3':(256:Int) ≤ (x:Int):=by omega
    have d08:(0:Int) ≤ 8:=by decide
    have hsh:(x:Int).fdiv (2 ^ min (Int.toNat 8) IntKind.u64.bits) = ((x / 256:Nat):Int):=by
      show (x:Int).fdiv 256 = _;rw [Int.fdiv_eq_ediv_of_nonneg _ (by decide)]; omega
    have hb:=bitsLen_16 (show x / 256 < 65536 by omega)
    have h4:x / 256 < 256:=by omega
    have hw:IntKind.u8.wrap ((x / 256:Nat):Int) = ((x / 256:Nat):Int):=IntWalk.u8_in _ (by omega)
    have hw1:IntKind.i64.wrap (0 + 8) = 8:=by decide
    have hw2:IntKind.i64.wrap ((Sort.bitsLen (x / 256):Nat):Int) = ((Sort.bitsLen (x / 256):Nat):Int):=IntWalk.i64_in _ (by omega)
    have h256:=bitsLen_256 (show 256 ≤ x by omega)
    have hw3:IntKind.i64.wrap (8 + ((Sort.bitsLen (x / 256):Nat):Int)) = ((Sort.bitsLen x:Nat):Int):=by rw [h256,IntWalk.i64_in _ (by omega)]; simp
    clear h256
    repeat' (first | simp only [↓Zabs,↓Zabp,↓Zabr,↓Zaae,↓Zabq,↓Zacj,↓Zaci,↓Zaco,↓Zaaq,↓Zaaj,↓Zaak,↓bxOp_index,↓bxOp_convert,↓bxPut,↓Zabk,↓Zabi,↓Zacm,↓Zacn,↓Zacp,↓Zaba,↓Zaay,aConvH_int,Zack,Zaab,Zabd,Zach,Zacg,Zabg,↓reduceIte,Nat.reduceEqDiff,Nat.reduceLT,dec_T,dec_F, *,argF,List.getD_cons_zero,cv64])
    refine sxOptB_tab Tryz.underlying9 (by kernel_rfl) (by kernel_rfl) h4 ?_
    repeat' (first | simp only [↓bxPut,↓Zacp,aConvH_int,Zack,Zaab,Zabd,↓reduceIte,Nat.reduceEqDiff,Nat.reduceLT,and_self, *,cv8])

theorem bLen_runs (x:Nat) (hx:x < 65536) (H:Heap):Runs Tryz.prog S (.fn 73) [.int .u64 (x:Int)] H (.int .i64 (Sort.bitsLen x:Int)) H:=by
  suffices h:WCall Tryz.prog S (.fn 73) [.int .u64 (x:Int)] H (fun v H' => v = .int .i64 (Sort.bitsLen x:Int) ∧ H' = H) by
    obtain ⟨_,_,hr,rfl,rfl⟩:=h; exact hr
  have f1:=(bLen64_runs hS x hx H).bx;refine Zaaw Tryz.func73 rfl (Nat.le_of_ble_eq_true rfl) (hS.no rfl _ _) ?_
  rw [Tryz.ntmps73,Tryz.results73]
  repeat' (first | simp only [↓Zabs,↓Zabp,↓Zabr,↓Zaae,↓Zabq,↓Zacj,↓Zaci,↓Zaco,↓Zaaq,↓Zaaj,↓Zaat,↓bxOp_convert,↓bxPut,↓Zabk,↓Zabl,↓Zabi,↓Zacm,↓Zacn,↓Zacp,↓Zaba,↓Zaay,↓Zaaz,Zabt,Zacg,Zabg,List.map_cons,List.map_nil,List.nil_append,List.append_nil,↓reduceIte,Nat.reduceEqDiff,Nat.reduceLT,and_self, *,argF,List.getD_cons_zero])
end Go.Proofs.YtpeoleimmabceaaGreat

namespace Go.Proofs.YtpeoleimmabceaaGreat
open Go Go.AM
set_option maxRecDepth 10000

theorem elemOkI:ElemOk Tryz.prog #[22,22] 3 (intE .i64).sz:=⟨⟨22,22,_,Tryz.t3,.int .i64 0,rfl,rfl,Tryz.underlying22,Tryz.underlying22,rfl,by kernel_rfl,by kernel_rfl,by kernel_rfl,by kernel_rfl,of_decide_eq_true (by kernel_rfl)⟩,by show 0 < 1; decide⟩
theorem bs0I (H:Heap):aBuildSlice Tryz.prog H 22 0 [] = some (.slice (some ⟨H.size,0,none⟩) 0 0,H.newExact [] 3):=by kernel_rfl
theorem neNil (r o n c:Nat):binP Tryz.prog .eql 22 (.slice (some ⟨r,o,none⟩) n c) (.slice none 0 0) = some (.bool false):=by kernel_rfl
theorem cvIU (z:Int):aConv Tryz.prog 3 98 (.int .i64 z) = some (.int .u64 (IntKind.u64.wrap z)):=by kernel_rfl
theorem perm_sum {l m:List Int} (h:l.Perm m):l.sum = m.sum:=by
  induction h with
  | nil => rfl
  | cons x _ ih => rw [List.sum_cons,List.sum_cons,ih]
  | swap x y l => simp only [List.sum_cons]; omega
  | trans _ _ h1 h2 => exact h1.trans h2
theorem sum_split (l:List Int) (k:Nat):l.sum = (l.take k).sum + (l.drop k).sum:=by
  rw [← List.sum_append,List.take_append_drop]
theorem sum_map_mul (l:List Int) (s:Int):(l.map fun x => x * s).sum = l.sum * s:=by
  induction l with
  | nil => simp
  | cons x l ih => rw [List.map_cons,List.sum_cons,List.sum_cons,ih,Int.add_mul]
theorem sum_map_const (l:List Int) (L:Int):(l.map fun _ => L).sum = l.length * L:=by
  induction l with
  | nil => simp
  | cons x l ih => rw [List.map_cons,List.sum_cons,ih,List.length_cons,Int.natCast_add,Int.add_mul]; simp; omega
theorem eq_sum (a:List Int) (k:Nat) (hk:k ≤ a.length) (s L:Int) (h1:∀ j,j < k → a.getD j 0 * s ≤ L) (h2:∀ j,k ≤ j → j < a.length → L ≤ a.getD j 0 * s) :
    (a.map fun x => min (x * s) L).sum = (a.take k).sum * s + ((a.length - k:Nat):Int) * L:=by
  rw [sum_split _ k,← List.map_take,← List.map_drop];have e1:(a.take k).map (fun x => min (x * s) L) = (a.take k).map fun x => x * s:=by
    refine List.map_congr_left fun x hx => ?_
    obtain ⟨j,hj,rfl⟩:=List.getElem_of_mem hx;have hj':j < k:=by rw [List.length_take] at hj; omega
    have:=h1 j hj';rw [List.getD_eq_getElem?_getD,List.getElem?_eq_getElem (by omega)] at this
    rw [List.getElem_take];exact Int.min_eq_left this
  have e2:(a.drop k).map (fun x => min (x * s) L) = (a.drop k).map fun _ => L:=by
    refine List.map_congr_left fun x hx => ?_
    obtain ⟨j,hj,rfl⟩:=List.getElem_of_mem hx;have hj':k + j < a.length:=by rw [List.length_drop] at hj; omega
    have:=h2 (k + j) (by omega) hj'
    rw [List.getD_eq_getElem?_getD,List.getElem?_eq_getElem hj'] at this;rw [List.getElem_drop];exact Int.min_eq_right this
  rw [e1,e2,sum_map_mul,sum_map_const,List.length_drop]
structure EqSt (e:Int) (a:List Int) (k:Nat) (left:Int):Prop where
  lt:k < a.length
  lf:left = e - (a.take k).sum
  paid:∀ j,j < k → a.getD j 0 * ((a.length - k:Nat):Int) ≤ left
  nn:0 ≤ left
def Asc (a:List Int):Prop:=∀ i j,i < j → j < a.length → a.getD i 0 ≤ a.getD j 0
theorem EqSt.first {e:Int} {a:List Int} (h0:0 < a.length) (he:0 ≤ e):EqSt e a 0 e:=⟨h0,by simp,fun j hj => absurd hj (Nat.not_lt_zero j),he⟩
theorem EqSt.next {e:Int} {a:List Int} {k:Nat} {left:Int} (h:EqSt e a k left) (ha:Asc a) (hp:∀ x ∈ a,0 ≤ x) (hs:e ≤ a.sum) (hb:¬ left ≤ a.getD k 0 * ((a.length - k:Nat):Int)):EqSt e a (k + 1) (left - a.getD k 0):=by
  have h1:=Q.sum_take_succ a h.lt;have h2:=h.lf;have hx:0 ≤ a.getD k 0:=hp _ (Zabb h.lt);have hlt:k + 1 < a.length:=by
    rcases Nat.lt_or_ge (k + 1) a.length with h3 | h3
    · exact h3
    · exfalso;have hk:a.length - k = 1:=by have:=h.lt; omega
      rw [hk] at hb;have h4:(a.take (k + 1)).sum = a.sum:=by rw [List.take_of_length_le h3]
      have:a.getD k 0 * ((1:Nat):Int) = a.getD k 0:=by simp
      omega
  have hm:((a.length - k:Nat):Int) = ((a.length - (k + 1):Nat):Int) + 1:=by omega
  rw [hm,Int.mul_add,Int.mul_one] at hb;have hnn:0 ≤ a.getD k 0 * ((a.length - (k + 1):Nat):Int):=Int.mul_nonneg hx (Int.natCast_nonneg _);refine ⟨hlt,by omega,fun j hj => ?_,by omega⟩
  have hle:a.getD j 0 ≤ a.getD k 0:=by
    rcases Nat.lt_or_ge j k with h3 | h3
    · exact ha j k h3 h.lt
    · rw [show j = k by omega]; exact Int.le_refl _
  have:=Int.mul_le_mul_of_nonneg_right hle (Int.natCast_nonneg (a.length - (k + 1)));omega
theorem EqSt.last {e:Int} {a:List Int} {k:Nat} {left:Int} (h:EqSt e a k left) (ha:Asc a) (hb:left ≤ a.getD k 0 * ((a.length - k:Nat):Int)):(a.map fun x => min (x * ((a.length - k:Nat):Int)) left).sum = e * ((a.length - k:Nat):Int):=by
  rw [eq_sum a k (by have:=h.lt; omega) _ _ h.paid fun j h1 h2 => ?_]
  · have:=h.lf;have h3:(a.take k).sum = e - left:=by omega
    rw [h3,Int.sub_mul,Int.mul_comm left];omega
  · have hle:a.getD k 0 ≤ a.getD j 0:=by
      rcases Nat.lt_or_ge k j with h3 | h3
      · exact ha k j h3 h2
      · rw [show j = k by omega]; exact Int.le_refl _
    have:=Int.mul_le_mul_of_nonneg_right hle (Int.natCast_nonneg (a.length - k));omega

variable {S:AM.Sys} (hS:Only S 5)
include hS

theorem cloneI_runs (v:Value) (w:List Int) (r o:Nat) (H:Heap) (hg:Grp H) (hl:SlI .i64 H v w r o) (h0:0 < w.length) (hs:w.length ≤ 1000) :
    ∃ v2 H',Runs Tryz.prog S (.fn 67) [v] H v2 H' ∧ Keep H H' ∧ LstG (intE .i64) 3 H.size H' v2 w:=by
  suffices h:WCall Tryz.prog S (.fn 67) [v] H (fun v2 H' => Keep H H' ∧ LstG (intE .i64) 3 H.size H' v2 w) by
    obtain ⟨v2,H',hr,h⟩:=h; exact ⟨v2,H',hr,h⟩
  have hkn:=Keep.newExact H [] 3;have hln:=hl.keep hkn;obtain ⟨a,c,hv,ha⟩:=hl.isv;have hpl:Plain0 v:=fun a' n' c' e => by rw [hv,ha h0] at e; cases e; exact .inl rfl
  obtain ⟨new,c1,c2,c3⟩:=hln.first Nat.one_pos hpl;obtain ⟨v2,H2,p1,_,p2,p3⟩:=Own.put0 (P:=Tryz.prog) (ts:=#[22,22]) (E:=intE .i64) (L:=H.size) elemOkI (hkn.grp hg) (Own.new H [] 3) (Nat.le_refl _) hkn.size c3 c2 rfl c1 (by omega)
  have hl2:=p2 h0;have hK:=hkn.trans p3;have b0:=bs0I H;rw [hv,ha h0] at p1 ⊢;have hnn:=neNil r o w.length c;clear hln hkn p3 p2 hl c1 c2 c3 hpl;refine Zaaw Tryz.func67 rfl (Nat.le_of_ble_eq_true rfl) (hS.no rfl _ _) ?_
  rw [Tryz.ntmps67,Tryz.results67]
  repeat' (first | simp only [↓Zabs,↓Zabp,↓Zabr,↓Zaae,↓Zabq,↓Zacj,↓Zaci,↓Zaco,↓Zaaq,↓Zaaj,↓Zaal,↓Zaak,↓Zaai,↓bxPut,↓Zabk,↓Zabl,↓Zabi,↓Zacm,↓Zacn,↓Zacp,↓Zaba,↓Zaay,Zack,Zacg,Zabg,List.map_nil,↓reduceIte,Nat.reduceEqDiff,Nat.reduceLT,and_self, *,argF,List.getD_cons_zero])

theorem flatI (d:Array Int):flat celInt d = d.toList.map fun z => .int .i64 z:=by
  unfold flat celInt
  induction d.toList with
  | nil => rfl
  | cons x l ih => rw [List.flatMap_cons,ih]; rfl
omit hS in
theorem chunksI {H:Heap}:∀ {xs:List Int} {cells:List Value},Chunks (intE .i64) H xs cells → cells = xs.map fun z => .int .i64 z
  | [],cells,h => List.length_eq_zero_iff.1 (by rw [h.1]; simp)
  | x :: xs,cells,h => by
    have hl:cells.length = (x :: xs).length * 1:=h.1;cases cells with
    | nil => simp at hl
    | cons c cs =>
      have h0:(intE .i64).At H x ((List.drop (0 * 1) (c :: cs)).take 1):=h.2 0 (by simp)
      have h0:[c] = [.int .i64 x] ∧ _:=h0;have h1:c = .int .i64 x:=by have:=h0.1; injection this
      have h2:Chunks (intE .i64) H xs cs:=⟨by simp at hl; show cs.length = xs.length * 1; omega,fun i hi => by
        have:=h.2 (i + 1) (by simp; omega)
        have e:(List.drop ((i + 1) * 1) (c :: cs)).take 1 = (List.drop (i * 1) cs).take 1:=by rw [Nat.succ_mul]; rfl
        have this:(intE .i64).At H (xs.getD i default) ((List.drop ((i + 1) * 1) (c :: cs)).take 1):=this;rw [e] at this
        exact this⟩
      rw [h1,chunksI h2]; rfl

theorem sortI_runs (H0:Heap) (hL0:H0.low ≤ H0.size) (hg:Grp H0) (v:Value) (w:List Int) (H:Heap) (hk:Keep H0 H) (hl:LstG (intE .i64) 3 H0.size H v w) (h0:0 < w.length) (hs:w.length ≤ 12) :
    ∃ u H' a r,Runs Tryz.prog S (.fn 68) [v] H u H' ∧ Keep H0 H' ∧ SlI .i64 H' v a r 0 ∧ a.length = w.length ∧ w.Perm a ∧ Asc a:=by
  obtain ⟨h1,h2⟩ | ⟨b,r,cells,hb,hlt,ha,hf,hv,hp,hc⟩:=hl
  · rw [h1] at h0; exact absurd h0 (Nat.lt_irrefl 0)
  have hce:=chunksI hc;have hrng:∀ z ∈ w,IntKind.i64.min ≤ z ∧ z ≤ IntKind.i64.max:=fun z hz => by
    obtain ⟨j,hj,rfl⟩:=List.getElem_of_mem hz;have h3:=hc.2 j hj;rw [List.getD_eq_getElem?_getD,List.getElem?_eq_getElem hj,Option.getD_some] at h3;exact h3.2
  have hfl:cells = flat celInt w.toArray:=by rw [flatI hS,hce]
  subst hfl;have hA:SaJ ⟨H0,[]⟩ H b r false w.toArray:=⟨hk,hb,ha.ge,hg,(fun x hx => (by cases hx)),.inr ⟨rfl,ha,hf⟩⟩
  have hsz:w.toArray.size = w.length:=by simp
  obtain ⟨u,H2,hR2,hA2,hz2⟩:=pdqJ_runs hS (HB:=⟨H0,[]⟩) hL0 (c:=w.length) w.toArray ((Sort.bitsLen w.length:Nat):Int) H hA (by rw [hsz]; exact hs)
  have hso:=Sort.insertionSort_holds (lt:=ltI) swoI w.toArray 0 w.toArray.size (Nat.zero_le _) (Nat.le_refl _);obtain ⟨d,hd⟩:∃ d,d = Sort.insertionSort ltI w.toArray 0 w.toArray.size:=⟨_,rfl⟩;rw [← hd] at hso hA2;obtain ⟨⟨q1,_,q3⟩,q4⟩:=hso;have hdl:d.toList.length = w.length:=by simpa using q1
  have hpm:w.Perm d.toList:=by
    have e1:(w.toArray.extract 0 w.toArray.size).toList = w:=by simp
    have e2:(d.extract 0 w.toArray.size).toList = d.toList:=by rw [← q1]; simp
    rw [e1,e2] at q3;exact q3.symm
  have hasc:Asc d.toList:=fun i j hij hj => by
    have h3:=q4 i j (Nat.zero_le _) hij (by rw [hsz]; omega)
    unfold ltI at h3;have h4:=of_decide_eq_false h3;have gd:∀ i,i < d.size → d[i]! = d.toList.getD i 0:=fun i hi => by
      rw [getElem!_pos d i hi,List.getD_eq_getElem?_getD,List.getElem?_eq_getElem (by simpa using hi)]
      simp
    have hj':j < d.size:=by simpa using hj
    rw [gd i (by omega),gd j hj'] at h4
    omega
  have hrng2:∀ z ∈ d.toList,IntKind.i64.min ≤ z ∧ z ≤ IntKind.i64.max:=fun z hz => hrng z (hpm.symm.mem_iff.1 hz)
  have hlm:w.length ≤ Go.maxLen:=by have:Go.maxLen = 9223372036854775807:=rfl; omega
  have hsl:SlI .i64 H2 (.slice (some ⟨r,0,none⟩) w.length w.length) d.toList r 0:=by
    refine ⟨⟨_,_,by rw [hdl],fun _ => rfl⟩,fun i hi => ?_,fun _ => hA2.lt,by rw [hdl]; exact hlm⟩
    have h3:=hA2.read (o:=i) (n:=1) (by rw [flatI hS,List.length_map]; omega)
    refine ⟨_,by rw [Nat.zero_add]; show H2.read r (i * 1) 1 = _; rw [Nat.mul_one]; exact h3,?_⟩
    have e:(List.drop i (flat celInt d)).take 1 = [.int .i64 (d.toList.getD i default)]:=by
      rw [flatI hS,List.drop_eq_getElem_cons (by rw [List.length_map]; exact hi),List.getElem_map,List.getD_eq_getElem?_getD,List.getElem?_eq_getElem hi]
      rfl
    rw [e];exact ⟨rfl,hrng2 _ (by rw [List.getD_eq_getElem?_getD,List.getElem?_eq_getElem hi]; exact List.getElem_mem hi)⟩
  refine ⟨packRes [],H2,d.toList,r,?_,hA2.keep,by rw [hv]; exact hsl,hdl,hpm,hasc⟩
  suffices h:WCall Tryz.prog S (.fn 68) [v] H (fun u' H' => u' = packRes [] ∧ H' = H2) by
    obtain ⟨_,_,hr,rfl,rfl⟩:=h; exact hr
  have f1:=(bLen_runs hS w.length (by omega) H).bx
  have hw0:IntKind.u64.wrap ((w.length:Nat):Int) = ((w.length:Nat):Int):=IntWalk.u64_in _ (by omega)
  rw [hsz] at hR2;have f2:=hR2.bx;subst hv;clear hR2 hA hA2 hsl hrng hrng2 hasc hpm q3 q4 hc hf ha hd hce;refine Zaaw Tryz.func68 rfl (Nat.le_of_ble_eq_true rfl) (hS.no rfl _ _) ?_
  rw [Tryz.ntmps68,Tryz.results68]
  repeat' (first | simp only [↓Zabp,↓Zabr,↓Zacj,↓Zaci,↓Zaco,↓Zaaq,↓Zaaj,↓Zaat,↓Zaao,↓bxOp_convert,↓bxPut,↓Zabk,↓resQ_normal,↓Zacm,↓Zacp,↓Zaba,↓Zaay,↓Zaaz,aConvH_int,Zack,Zabt,List.map_cons,List.map_nil,List.nil_append,List.append_nil,↓reduceIte,Nat.reduceEqDiff,Nat.reduceLT,and_self, *,argF,List.getD_cons_zero,Q.lenI,cvIU])
end Go.Proofs.YtpeoleimmabceaaGreat
