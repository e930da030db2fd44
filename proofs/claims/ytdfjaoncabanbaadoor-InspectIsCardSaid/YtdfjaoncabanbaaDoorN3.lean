/- The product of numbers. -/
import Derived.Test.YtdfjaoncabanbaaDoorBI
set_option linter.unusedVariables false
set_option linter.unusedSimpArgs false
set_option linter.unusedSectionVars false

namespace Go.Proofs.YtdfjaoncabanbaaDoor
open Go Go.AM
set_option maxRecDepth 10000

theorem mkU (H:Heap) {l:Int} (h0:0 ≤ l) (h1:l ≤ 268435456):aMakeSlice Tryd.prog H 59 (.int .i64 l) (.int .i64 l) = some (.slice (some ⟨H.size,0,none⟩) l.toNat l.toNat,H.newExact ((List.replicate l.toNat (0:Int)).map fun z => .int .u32 z) 96):=by
  have h2:=makeSlice_eq (P:=Tryd.prog) (t:=59) (e:=96) (inf:=Tryd.t96) (z:=.int .u32 0) Tryd.underlying59 (by kernel_rfl) (by kernel_rfl) rfl (by kernel_rfl) (of_decide_eq_true (by kernel_rfl)) H .i64 .i64 h0 h1
  rw [h2];have h3:Tryd.t96.size = 1:=by kernel_rfl
  rw [h3,Nat.mul_one,List.map_replicate];rfl
theorem stU {H:Heap} {r:Nat} {w:List Int} (h:Own H r 96 (w.map fun z => .int .u32 z)) (z:Int) {o:Nat} (ho:o < w.length) :
    ∃ H2,aStore Tryd.prog H 96 (.pointer (some ⟨r,o,none⟩)) (.int .u32 z) = some H2 ∧ Own H2 r 96 ((w.set o z).map fun z => .int .u32 z) ∧ (∀ H0,Keep H0 H → H0.size ≤ r → Keep H0 H2) ∧ H2.size = H.size:=by
  obtain ⟨H2,h1,h2,h4,_,h3⟩:=h.store (t:=96) infU.1 (v:=.int .u32 z) (new:=[.int .u32 z]) rfl (infU.2.trans rfl) rfl (o:=o) (by rw [List.length_map]; exact ho)
  rw [splice_map ho] at h2;exact ⟨H2,h1,h2,h3,h4⟩
theorem wmul_step {P x ab c s V W:Int} (hs:s = x + ab + c) (hi:V + P * c = W):(V + P * (s % 4294967296 - x)) + P * 4294967296 * (s / 4294967296) = W + P * ab:=by
  have h1:4294967296 * (s / 4294967296) + s % 4294967296 = s:=Int.mul_ediv_add_emod s 4294967296;have h2:P * (s % 4294967296 - x) + P * 4294967296 * (s / 4294967296) = P * ab + P * c:=by
    rw [Int.mul_assoc,← Int.mul_add,← Int.mul_add];congr 1;omega
  omega
theorem wprod_bound {x y:Int} (hx:0 ≤ x ∧ x ≤ 4294967295) (hy:0 ≤ y ∧ y ≤ 4294967295):0 ≤ x * y ∧ x * y ≤ 18446744065119617025:=
  ⟨Int.mul_nonneg hx.1 hy.1,Int.le_trans (Int.mul_le_mul hx.2 hy.2 hy.1 (by omega)) (by decide)⟩
theorem wval_replicate (n:Nat):W.val (List.replicate n 0) = 0:=by
  induction n with
  | zero => rfl
  | succ n ih => rw [List.replicate_succ]; simp [W.val,ih]
theorem wslice {H:Heap} {r:Nat} {w:List Int} (h:Own H r 96 (w.map fun z => .int .u32 z)) (hd:W.Digs w) (hl:w.length ≤ 100000) (c:Nat):SlI .u32 H (.slice (some ⟨r,0,none⟩) w.length c) w r 0:=
  Own.sl h (fun z hz => by
    have h1:IntKind.u32.min = 0:=by decide
    have h2:IntKind.u32.max = 4294967295:=by decide
    rw [h1,h2];have:=hd z hz
    omega) (by have:Go.maxLen = 9223372036854775807:=rfl; omega) c

theorem sgn_mul {x y:Int} (h:x * y ≠ 0):(!(decide (x < 0) == decide (y < 0))) = decide (x * y < 0):=by
  have hx:x ≠ 0:=fun h0 => h (by rw [h0,Int.zero_mul])
  have hy:y ≠ 0:=fun h0 => h (by rw [h0,Int.mul_zero])
  by_cases h1:x < 0 <;> by_cases h2:y < 0
  · have:=Int.mul_pos_of_neg_of_neg h1 h2;rw [decide_eq_true h1,decide_eq_true h2,decide_eq_false (by omega)]; rfl
  · have:=Int.mul_neg_of_neg_of_pos h1 (show 0 < y by omega)
    rw [decide_eq_true h1,decide_eq_false h2,decide_eq_true this]; rfl
  · have:=Int.mul_neg_of_pos_of_neg (show 0 < x by omega) h2
    rw [decide_eq_false h1,decide_eq_true h2,decide_eq_true this]; rfl
  · have:=Int.mul_pos (show 0 < x by omega) (show 0 < y by omega)
    rw [decide_eq_false h1,decide_eq_false h2,decide_eq_false (by omega)]; rfl

variable {S:AM.Sys} (hS:Only S 5)
include hS

set_option maxHeartbeats 4000000 in
theorem ntimes_runs (v1 v2:Value) (x y:Int) (l1 l2:Nat) (H:Heap) (hL:H.low ≤ H.size) (hx:NumIs H v1 x l1) (hy:NumIs H v2 y l2) (hl1:l1 ≤ 100) (hl2:l2 ≤ 100):NumOut S 33 [v1,v2] H (x * y) (l1 + l2):=by
  suffices h:WCall Tryd.prog S (.fn 33) [v1,v2] H (fun v H' => Keep H H' ∧ NumIs H' v (x * y) (l1 + l2)) by
    obtain ⟨v,H',hr,h1,h2⟩:=h; exact ⟨H',v,h1,h2,hr⟩
  obtain ⟨a,r1,c1,rfl,h1,ha,-,va,hsa⟩:=hx;obtain ⟨b,r2,c2,rfl,h2,hb,-,vb,hsb⟩:=hy;obtain ⟨H1,e1,k1,z1,rx2,rx0,rx1⟩:=boxN H (.bool (decide (x < 0))) (.slice (some ⟨r1,0,none⟩) a.length c1);obtain ⟨H2,e2,k2,z2,ry2,ry0,ry1⟩:=boxN H1 (.bool (decide (y < 0))) (.slice (some ⟨r2,0,none⟩) b.length c2);obtain ⟨H3,e3,k3,z3,-,-⟩:=box1 H2 [.bool false,.slice none 0 0] 61;have ow3:Own H3 H2.size 61 [.bool false,.slice none 0 0]:=e3 ▸ Own.new H2 _ _;have k02:=k1.trans k2;have k03:=k02.trans k3;have zb:H.size < H2.size:=Nat.lt_of_lt_of_le z1 k2.size;rw [Nat.zero_add] at rx1 ry1;have rx1':=k3.read zb (k2.read z1 rx1);have rx0':=k3.read zb (k2.read z1 rx0);have ry1':=k3.read z2 ry1;have ry0':=k3.read z2 ry0;have zb3:H.size < H3.size:=Nat.lt_of_lt_of_le zb k3.size;have zc3:H1.size < H3.size:=Nat.lt_of_lt_of_le z2 k3.size;have hcs1:(Value.agg ⟨[.bool (decide (x < 0)),.slice (some ⟨r1,0,none⟩) a.length c1]⟩).cells.toList = [.bool (decide (x < 0)),.slice (some ⟨r1,0,none⟩) a.length c1]:=rfl;have hcs2:(Value.agg ⟨[.bool (decide (y < 0)),.slice (some ⟨r2,0,none⟩) b.length c2]⟩).cells.toList = [.bool (decide (y < 0)),.slice (some ⟨r2,0,none⟩) b.length c2]:=rfl;have hmk:=mkU H3 (l:=(a.length:Int) + (b.length:Int)) (by omega) (by omega)
  have hto:((a.length:Int) + (b.length:Int)).toNat = a.length + b.length:=by omega
  rw [hto] at hmk;obtain ⟨H4,e4,k4,z4,-,-⟩:=box1 H3 ((List.replicate (a.length + b.length) (0:Int)).map fun z => .int .u32 z) 96
  have w4:Own H4 H3.size 96 ((List.replicate (a.length + b.length) (0:Int)).map fun z => .int .u32 z):=e4 ▸ Own.new H3 _ _
  rw [e4] at hmk;have hw0:IntKind.i64.wrap ((a.length:Int) + (b.length:Int)) = (a.length:Int) + (b.length:Int):=IntWalk.i64_in _ (by omega)
  have L3:=k03.low hL;have rx4:=k4.read zb3 rx1';refine Zaaw Tryd.func33 rfl (Nat.le_of_ble_eq_true rfl) (hS.no rfl _ _) ?_
  rw [Tryd.ntmps33,Tryd.results33]
  repeat' simp only [↓Zabo,↓Zabq,↓Zaah,↓Zabl,↓Zabp,↓Zaci,↓Zach,↓Zacn,↓Zaar,↓Zaaj,↓bxOp_alloc,↓Zaal,↓Zaaq,↓Zaat,↓Zaak,↓bxOp_makeSlice,↓Zaan,↓Zaau,↓Zaap,↓Zack,↓bxPut,↓Zabj,↓Zabh,↓Zacl,↓bxRes_cell,↓Zaco,↓Zaba,↓Zaay,↓Zaaz,Zacj,Zaad,Zabc,Zabs,Zabf,List.nil_append,↓reduceIte,Nat.reduceEqDiff,Nat.reduceLT,one1,Option.bind_some, *,argF,List.getD_cons_zero,List.getD_cons_succ,alNum,faN1,ldUs,lenU]
  clear e1 e2 e3 e4 hmk rx1' hcs1 hcs2 hto
  refine sxL_of (fun m ρ X => ∃ (i:Nat) (out:List Int),m = a.length - i ∧ i ≤ a.length ∧ out.length = a.length + b.length ∧ W.Digs out ∧ W.val out = W.val (a.take i) * W.val b ∧ (∀ j,i + b.length ≤ j → out.getD j 0 = 0) ∧ Keep H3 X ∧ Own X H3.size 96 (out.map fun z => .int .u32 z) ∧
    ρ 2 = .pointer (some ⟨H.size,0,none⟩) ∧ ρ 3 = .pointer (some ⟨H1.size,0,none⟩) ∧ ρ 4 = .pointer (some ⟨H2.size,0,none⟩) ∧ ρ 5 = .slice (some ⟨H3.size,0,none⟩) (a.length + b.length) (a.length + b.length) ∧ ρ 20 = .slice (some ⟨r1,0,none⟩) a.length c1 ∧ ρ 21 = .int .i64 (a.length:Int) ∧ ρ 22 = .int .i64 (i:Int))
    ⟨0,List.replicate (a.length + b.length) 0,rfl,Nat.zero_le _,by simp,(fun x hx => by rw [List.eq_of_mem_replicate hx]; omega),(by rw [wval_replicate]; simp [W.val]),(fun j _ => by rw [List.getD_eq_getElem?_getD,List.getElem?_replicate]; split <;> rfl),k4,w4,rfl,rfl,rfl,rfl,rfl,rfl,rfl⟩ ?_
  clear w4 hw0 k4 z4 H4 rx4;rintro m ρ X ⟨i,out,rfl,hi,hol,hod,hov,hoz,hKX,w2,e2,e3,e4,e5,e20,e21,e22⟩;have ryX:=hKX.read zc3 ry1';have kHX:=k03.trans hKX
  by_cases hlt:i < a.length
  · have hlt':(i:Int) < (a.length:Int):=by omega
    have hwi:IntKind.i64.wrap ((i:Int) + 1) = ((i + 1:Nat):Int):=IntWalk.i64_in _ (by omega)
    have p0:=ixUn (r:=r1) (c:=c1) hlt;have q0:=((h1.keep kHX).rdI hlt).1;rw [Nat.zero_add] at q0;have hai:=ha.getD i
    repeat' simp only [↓Zabr,↓Zabo,↓Zabq,↓Zaag,↓Zaah,↓Zabl,↓Zabn,↓Zaci,↓Zach,↓Zacn,↓Zaar,↓Zaaj,↓Zaaq,↓Zaat,↓Zaak,↓Zaan,↓Zaao,↓Zaap,↓bxOp_convert,↓Zack,↓bxPut,↓Zabj,↓Zabi,↓Zaaf,↓Zaae,↓Zabe,↓Zabd,↓Zaco,↓Zaba,↓Zaay,Zacj,Zaad,Zabc,Zacg,↓reduceIte,Nat.reduceEqDiff,Nat.reduceLT,dec_T,one1,Option.bind_some, *,lenU,ldU,ldUs,faN1]
    refine sxL_of (fun m ρ Y => ∃ (k:Nat) (o3:List Int) (c:Int),m = b.length - k ∧ k ≤ b.length ∧ o3.length = a.length + b.length ∧ W.Digs o3 ∧ (0 ≤ c ∧ c ≤ 4294967295) ∧ W.val o3 + 4294967296 ^ (i + k) * c = W.val (a.take i) * W.val b + 4294967296 ^ i * (a.getD i 0 * W.val (b.take k)) ∧
      (∀ j,i + b.length ≤ j → o3.getD j 0 = 0) ∧ Keep H3 Y ∧ Own Y H3.size 96 (o3.map fun z => .int .u32 z) ∧
      ρ 2 = .pointer (some ⟨H.size,0,none⟩) ∧ ρ 3 = .pointer (some ⟨H1.size,0,none⟩) ∧ ρ 4 = .pointer (some ⟨H2.size,0,none⟩) ∧ ρ 5 = .slice (some ⟨H3.size,0,none⟩) (a.length + b.length) (a.length + b.length) ∧ ρ 20 = .slice (some ⟨r1,0,none⟩) a.length c1 ∧ ρ 21 = .int .i64 (a.length:Int) ∧ ρ 22 = .int .i64 (i:Int) ∧
      ρ 6 = .int .i64 (i:Int) ∧ ρ 7 = .int .u32 (a.getD i 0) ∧ ρ 8 = .int .u64 c ∧ ρ 28 = .slice (some ⟨r2,0,none⟩) b.length c2 ∧ ρ 29 = .int .i64 (b.length:Int) ∧ ρ 30 = .int .i64 (k:Int))
      ⟨0,out,0,rfl,Nat.zero_le _,hol,hod,by omega,(by simp [W.val,hov]),hoz,hKX,w2,e2,e3,e4,e5,e20,e21,e22,rfl,rfl,rfl,rfl,rfl,rfl⟩ ?_
    clear e2 e3 e4 e5 e20 e21 e22 w2 hod hov hoz hol hKX kHX q0 p0 ryX;rintro m ρ Y ⟨k,o3,c,rfl,hk,hol,hod,hc,hov,hoz,hK3,w3,e2,e3,e4,e5,e20,e21,e22,e6,e7,e8,e28,e29,e30⟩;have kHY:=k03.trans hK3
    by_cases hlt2:k < b.length
    · have hlt2':(k:Int) < (b.length:Int):=by omega
      have hwk:IntKind.i64.wrap ((k:Int) + 1) = ((k + 1:Nat):Int):=IntWalk.i64_in _ (by omega)
      have p1:=ixUn (r:=r2) (c:=c2) hlt2;have q1:=((h2.keep kHY).rdI hlt2).1;rw [Nat.zero_add] at q1;have hbk:=hb.getD k;have hx:=hod.getD (i + k);have hik:i + k < o3.length:=by omega
      have hwik:IntKind.i64.wrap ((i:Int) + (k:Int)) = ((i + k:Nat):Int):=by rw [IntWalk.i64_in _ (by omega)]; omega
      have p2:=ixUn (r:=H3.size) (c:=a.length + b.length) (show i + k < a.length + b.length by omega)
      have q2:=w3.read (o:=i + k) (n:=1) (by rw [List.length_map]; omega)
      rw [map_at hik] at q2;have hpb:=wprod_bound hai hbk;have hsp:=W.val_split (l:=b) (n:=k) (by omega)
      have hst:=W.val_set (l:=o3) (j:=i + k) ((o3.getD (i + k) 0 + a.getD i 0 * b.getD k 0 + c) % 4294967296) hik;have hms:=wmul_step (s:=o3.getD (i + k) 0 + a.getD i 0 * b.getD k 0 + c) rfl hov;have hnew:W.val (o3.set (i + k) ((o3.getD (i + k) 0 + a.getD i 0 * b.getD k 0 + c) % 4294967296)) + 4294967296 ^ (i + (k + 1)) * ((o3.getD (i + k) 0 + a.getD i 0 * b.getD k 0 + c) / 4294967296) = W.val (a.take i) * W.val b + 4294967296 ^ i * (a.getD i 0 * W.val (b.take (k + 1))):=by
        rw [hst,← Nat.add_assoc,Int.pow_succ,hms,hsp,Int.mul_add,Int.mul_add,Int.pow_add]
        rw [show (4294967296:Int) ^ i * 4294967296 ^ k * (a.getD i 0 * b.getD k 0) = 4294967296 ^ i * (a.getD i 0 * (4294967296 ^ k * b.getD k 0)) by
          rw [Int.mul_assoc]; congr 1
          rw [← Int.mul_assoc,Int.mul_comm ((4294967296:Int) ^ k) (a.getD i 0),Int.mul_assoc]]
        omega
      have hz2:∀ j,i + b.length ≤ j → (o3.set (i + k) ((o3.getD (i + k) 0 + a.getD i 0 * b.getD k 0 + c) % 4294967296)).getD j 0 = 0:=fun j hj => by rw [set_getD hik,if_neg (by omega)]; exact hoz j hj
      have hd2:W.Digs (o3.set (i + k) ((o3.getD (i + k) 0 + a.getD i 0 * b.getD k 0 + c) % 4294967296)):=hod.set (by omega)
      have hl2:(o3.set (i + k) ((o3.getD (i + k) 0 + a.getD i 0 * b.getD k 0 + c) % 4294967296)).length = a.length + b.length:=by rw [List.length_set]; exact hol
      have hob1:=stU w3 ((o3.getD (i + k) 0 + a.getD i 0 * b.getD k 0 + c) % 4294967296) hik;obtain ⟨H4,ps,w4,hkp,_⟩:=hob1;have hK4:=hkp H3 hK3 (Nat.le_refl _);clear hov hoz hsp hst hms hod hol w3 hkp h1 h2 ha hb hik va vb kHY;generalize o3.getD (i + k) 0 = xk at *;generalize b.getD k 0 = bk at *;generalize a.getD i 0 = ai at *;have f1:IntKind.u64.wrap ai = ai:=IntWalk.u64_in _ (by omega)
      have f2:IntKind.u64.wrap bk = bk:=IntWalk.u64_in _ (by omega)
      have f3:IntKind.u64.wrap xk = xk:=IntWalk.u64_in _ (by omega)
      have f4:IntKind.u64.wrap (ai * bk) = ai * bk:=IntWalk.u64_in _ (by omega)
      have f5:IntKind.u64.wrap (ai * bk + xk) = ai * bk + xk:=IntWalk.u64_in _ (by omega)
      have f6:IntKind.u64.wrap (c + (ai * bk + xk)) = xk + ai * bk + c:=by rw [IntWalk.u64_in _ (by omega)]; omega
      have f7:IntKind.u32.wrap (xk + ai * bk + c) = (xk + ai * bk + c) % 4294967296:=wrap3 _;have f8:(xk + ai * bk + c).fdiv (2 ^ min (Int.toNat 32) IntKind.u64.bits) = (xk + ai * bk + c) / 4294967296:=shr32 (by omega)
      have f9:0 ≤ (xk + ai * bk + c) / 4294967296 ∧ (xk + ai * bk + c) / 4294967296 ≤ 4294967295:=by omega
      clear hpb hx hbk hai hc
      repeat' simp only [↓Zabr,↓Zabo,↓Zabq,↓Zaag,↓Zabl,↓Zabn,↓Zaci,↓Zach,↓Zacn,↓Zaar,↓Zaaj,↓Zaaq,↓Zaat,↓Zaak,↓Zaao,↓bxOp_convert,↓Zack,↓bxPut,↓Zabj,↓Zabi,↓Zaaf,↓Zaae,↓Zabe,↓Zabd,↓Zaco,↓Zaba,↓Zaay,aConvH_int,Zacj,sxOptB_ite,Zaad,Zabc,Zacg,↓reduceIte,Nat.reduceEqDiff,Nat.reduceLT,dec_T,true_and,one1,Option.bind_some, *,ldU,cvUU,cvU6]
      exact ⟨le32,_,by omega,k + 1,_,_,rfl,by omega,hl2,hd2,f9,hnew,hz2,w4,rfl,rfl⟩
    · have hlt2':¬ (k:Int) < (b.length:Int):=by omega
      have hke:k = b.length:=by omega
      have hil:i + b.length < o3.length:=by omega
      have hwil:IntKind.i64.wrap ((i:Int) + (b.length:Int)) = ((i + b.length:Nat):Int):=by rw [IntWalk.i64_in _ (by omega)]; omega
      have p2:=ixUn (r:=H3.size) (c:=a.length + b.length) (show i + b.length < a.length + b.length by omega)
      have ryY:=hK3.read zc3 ry1';have f1:IntKind.u32.wrap c = c:=IntWalk.u32_in _ hc;have hob1:=stU w3 c hil;obtain ⟨H4,ps,w4,hkp,_⟩:=hob1;have hK4:=hkp H3 hK3 (Nat.le_refl _);have hst:=W.val_set (l:=o3) (j:=i + b.length) c hil;have hsp:=W.val_split (l:=a) (n:=i) hlt;have hnew:W.val (o3.set (i + b.length) c) = W.val (a.take (i + 1)) * W.val b:=by
        rw [hke,List.take_length] at hov;rw [hst,hoz _ (Nat.le_refl _),Int.sub_zero,hov,hsp,Int.add_mul,Int.mul_assoc]
      have hz2:∀ j,i + 1 + b.length ≤ j → (o3.set (i + b.length) c).getD j 0 = 0:=fun j hj => by rw [set_getD hil,if_neg (by omega)]; exact hoz j (by omega)
      have hd2:W.Digs (o3.set (i + b.length) c):=hod.set hc;have hl2:(o3.set (i + b.length) c).length = a.length + b.length:=by rw [List.length_set]; exact hol
      clear hov hoz hst hsp hod hol w3 hkp h1 h2 ha hb hke va vb kHY hc
      repeat' simp only [↓Zabr,↓Zabo,↓Zabq,↓Zaag,↓Zabl,↓Zabn,↓Zaci,↓Zach,↓Zacn,↓Zaar,↓Zaaj,↓Zaaq,↓Zaat,↓Zaak,↓Zaao,↓bxOp_convert,↓Zack,↓bxPut,↓Zabj,↓Zabi,↓Zaaf,↓Zaae,↓Zabe,↓Zabd,↓Zaco,↓Zaba,↓Zaay,aConvH_int,Zacj,Zaad,Zabc,Zacf,↓reduceIte,Nat.reduceEqDiff,Nat.reduceLT,dec_F,true_and,one1,Option.bind_some, *,lenU,ldUs,faN1,cvU6]
      exact ⟨_,by omega,i + 1,_,rfl,by omega,hl2,hd2,hnew,hz2,w4,rfl⟩
  · have hlt':¬ (i:Int) < (a.length:Int):=by omega
    have hie:i = a.length:=by omega
    have rx0X:=hKX.read zb3 rx0';have ry0X:=hKX.read zc3 ry0';have sl:=wslice w2 hod (by omega) (a.length + b.length)
    rw [hie,List.take_length] at hov;have hvz:W.val out = (x * y).natAbs:=by rw [hov,va,vb,← Int.natCast_mul,Int.natAbs_mul]
    have hob:=signed_num hS (!(decide (x < 0) == decide (y < 0))) (x * y) out H3.size (a.length + b.length) (l1 + l2) X (kHX.low hL) sl (by omega) (by omega) (fun _ => CutR.own w2) hod hvz sgn_mul (by omega)
    obtain ⟨H5,v5,k5,q5,R5⟩:=hob;have f5:=R5.bx;rw [hol] at f5;obtain ⟨H6,ps,hld,q6,kp⟩:=retNum (ow3.keep (hKX.trans k5)) q5;have k6:=kp H (kHX.trans k5) (Nat.le_trans k1.size k2.size);clear R5 h1 h2 ha hb w2 hod hov hoz hol hie sl hvz ow3 hKX kHX k5 kp q5 k1 k2 k3 k02 k03 va vb
    repeat' simp only [↓Zabr,↓Zabo,↓Zabq,↓Zaag,↓Zaah,↓Zabl,↓Zabn,↓Zaci,↓Zach,↓Zacn,↓Zaar,↓Zaaj,↓Zaaq,↓Zaat,↓Zaak,↓Zaan,↓Zaao,↓Zaap,↓bxOp_convert,↓Zack,↓bxPut,↓Zabj,↓Zabi,↓Zaaf,↓Zaae,↓Zabe,↓Zabd,↓Zaco,↓Zaba,↓Zaay,Zacj,Zaad,Zabc,Zacf,List.map,List.append_nil,↓reduceIte,Nat.reduceEqDiff,Nat.reduceLT,dec_F,and_self,one1,Option.bind_some, *,ldBo,faN0,neqB]
end Go.Proofs.YtdfjaoncabanbaaDoor
