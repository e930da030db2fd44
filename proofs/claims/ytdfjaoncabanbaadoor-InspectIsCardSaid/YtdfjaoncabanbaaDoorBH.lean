/- Whole numbers of any size, continued: the digits of a sum. -/
import Derived.Test.YtdfjaoncabanbaaDoorB3
set_option linter.unusedVariables false
set_option linter.unusedSimpArgs false
set_option linter.unusedSectionVars false

namespace Go.Proofs.YtdfjaoncabanbaaDoor
open Go Go.AM
set_option maxRecDepth 10000

theorem val_split_all (a:List Int) (i:Nat):val (a.take (i + 1)) = val (a.take i) + 10000 ^ i * a.getD i 0:=by
  by_cases h:i < a.length
  · exact val_split h
  · rw [List.take_of_length_le (by omega),List.take_of_length_le (by omega),List.getD_eq_getElem?_getD,List.getElem?_eq_none (by omega)]
    simp
theorem getD_past {a:List Int} {i:Nat} (h:¬ i < a.length):a.getD i 0 = 0:=by
  rw [List.getD_eq_getElem?_getD,List.getElem?_eq_none (by omega)]; rfl
variable {S:AM.Sys} (hS:Only S 5)
include hS

theorem addD_runs (v1 v2:Value) (a b:List Int) (r1 o1 r2 o2:Nat) (H:Heap) (hg:Grp H) (hL:H.low ≤ H.size) (h1:SlI .i64 H v1 a r1 o1) (h2:SlI .i64 H v2 b r2 o2) (ha:Digs a) (hb:Digs b) (hsa:a.length ≤ 3000) (hsb:b.length ≤ 3000) :
    ∃ w,Digs w ∧ val w = val a + val b ∧ w.length ≤ a.length + b.length + 1 ∧ Out S 82 [v1,v2] H w:=by
  suffices h:WCall Tryd.prog S (.fn 82) [v1,v2] H (fun v H' => ∃ w r' o',Digs w ∧ val w = val a + val b ∧ w.length ≤ a.length + b.length + 1 ∧ Keep H H' ∧ Grp H' ∧ SlI .i64 H' v w r' o' ∧ Fine v ∧ (0 < w.length → H.size ≤ r')) by
    obtain ⟨v',H',hr,w,r',o',h1,h2,h2b,h3,h4,h5,h6,h7⟩:=h; exact ⟨w,h1,h2,h2b,H',v',r',o',h3,h4,h5,h6,h7,hr⟩
  obtain ⟨a1,c1,rfl⟩:=h1.v0;obtain ⟨a2,c2,rfl⟩:=h2.v0;refine Zaaw Tryd.func82 rfl (Nat.le_of_ble_eq_true rfl) (hS.no rfl _ _) ?_
  rw [Tryd.ntmps82,Tryd.results82]
  repeat' simp only [↓Zabo,↓Zabq,↓Zaah,↓Zabl,↓Zabp,↓Zaci,↓Zach,↓Zacn,↓Zaar,↓Zaaj,↓bxPut,↓Zabj,↓Zabh,↓Zacl,↓Zacm,↓Zaba,↓Zaay,Zabf,Nat.reduceLT, *]
  refine sxL_of (fun m ρ H2 => ∃ (i:Nat) (out:List Int) (v':Value) (c:Int),m = a.length + b.length + 1 - i ∧ out.length = i ∧ i ≤ a.length + b.length + 1 ∧ Digs out ∧ (c = 0 ∨ c = 1) ∧ (a.length < i ∧ b.length < i → c = 0) ∧ val out + 10000 ^ i * c = val (a.take i) + val (b.take i) ∧ Lst 3 .i64 H H2 v' out ∧
    ρ 0 = .slice a1 a.length c1 ∧ ρ 1 = .slice a2 b.length c2 ∧ ρ 5 = v' ∧ ρ 6 = .int .i64 c ∧ ρ 7 = .int .i64 i)
    ⟨0,[],_,0,rfl,rfl,Nat.zero_le _,(fun x hx => absurd hx (List.not_mem_nil)),.inl rfl,(fun _ => rfl),(by simp [val]),Lst.nil (Keep.refl H) hg,rfl,rfl,rfl,rfl,rfl⟩ ?_
  rintro m ρ H2 ⟨i,out,v',c,rfl,hol,hi,hod,hc,hcz,hov,L,e0,e1,e5,e6,e7⟩;have hL2:H2.low ≤ H2.size:=L.keep.low hL;have hsa':=val_split_all a i;have hsb':=val_split_all b i;have hai:=ha.getD i;have hbi:=hb.getD i;have hc01:0 ≤ c ∧ c ≤ 1:=by rcases hc with h | h <;> omega
  have fin:∀ s:Int,s = c + a.getD i 0 + b.getD i 0 → (Digs (out ++ [s.tmod 10000]) ∧ val (out ++ [s.tmod 10000]) + 10000 ^ (i + 1) * s.tdiv 10000 = val (a.take (i + 1)) + val (b.take (i + 1)) ∧ (s.tdiv 10000 = 0 ∨ s.tdiv 10000 = 1)):=fun s hs => by
    rw [Int.tmod_eq_emod_of_nonneg (by omega),Int.tdiv_eq_ediv_of_nonneg (by omega)]
    refine ⟨hod.append (Digs.one (by omega)),?_,by omega⟩
    rw [val_append,hol,hsa',hsb',Int.pow_succ,Int.mul_assoc];simp only [val,Int.mul_zero,Int.add_zero];have h3:(10000:Int) ^ i * (s % 10000) + 10000 ^ i * (10000 * (s / 10000)) = 10000 ^ i * c + 10000 ^ i * a.getD i 0 + 10000 ^ i * b.getD i 0:=by
      rw [← Int.mul_add,← Int.mul_add,← Int.mul_add];congr 1;omega
    omega
  by_cases hA:i < a.length
  · by_cases hB:i < b.length
    · have hlt1:(i:Int) < (a.length:Int):=by omega
      have hlt2:(i:Int) < (b.length:Int):=by omega
      have p1:=SlI_ix h1 hA;have q1:=((h1.keep L.keep).rdI hA).1;have hwi:=wrap_succ hA h1.ml;have p2:=SlI_ix h2 hB;have q2:=((h2.keep L.keep).rdI hB).1;have hwj:=wrap_succ hB h2.ml;have hf:=fin (c + a.getD i 0 + b.getD i 0) (by omega)
      have hob1:=L.push okI hg (by omega) ((c + a.getD i 0 + b.getD i 0).tmod 10000)
      obtain ⟨v3,H3,p3,L3⟩:=hob1;have b3:=bsI H2 ((c + a.getD i 0 + b.getD i 0).tmod 10000);have hcz':a.length < i + 1 ∧ b.length < i + 1 → (c + a.getD i 0 + b.getD i 0).tdiv 10000 = 0:=fun hh => by rw [Int.tdiv_eq_ediv_of_nonneg (by omega)]; omega
      clear h1 h2 hsa' hsb' ha hb hov fin;generalize a.getD i 0 = x at *;generalize b.getD i 0 = y at *;have f1:IntKind.i64.wrap (c + x) = c + x:=IntWalk.i64_in _ (by omega)
      have f2:IntKind.i64.wrap (c + x + y) = c + x + y:=IntWalk.i64_in _ (by omega)
      have hb0:¬ (10000:Int) = 0:=by omega
      have hdv:IntKind.i64.wrap ((c + x + y).tdiv 10000) = (c + x + y).tdiv 10000:=IntWalk.i64_in _ (by rw [Int.tdiv_eq_ediv_of_nonneg (by omega)]; omega)
      repeat' simp only [↓Zabr,↓Zabo,↓Zabq,↓Zaag,↓Zabl,↓Zabn,↓Zaci,↓Zach,↓Zacn,↓Zaav,↓Zaar,↓Zaaj,↓Zaas,↓Zaam,↓Zaaq,↓Zaak,↓Zaao,↓Zaap,↓bxOp_append,↓bxPut,↓Zabj,↓Zabi,↓Zaaf,↓Zaae,↓Zabe,↓Zabd,↓Zaco,↓Zaba,↓Zaay,↓dstAt,↓Zabb,Zacj,Zaad,Zabc,Zaac,sxGuardB_ft,Zacg,List.map,↓reduceIte,Nat.reduceEqDiff,Nat.reduceLT,dec_T,true_and,one1,Option.bind_some,ne_eq,not_false_eq_true, *,lenI,ldI]
      exact ⟨_,by omega,i + 1,_,_,_,rfl,by simp [hol],by omega,hf.1,hf.2.2,hcz',hf.2.1,L3,rfl,rfl,rfl⟩
    · have hlt1:(i:Int) < (a.length:Int):=by omega
      have hlt2:¬ (i:Int) < (b.length:Int):=by omega
      have p1:=SlI_ix h1 hA;have q1:=((h1.keep L.keep).rdI hA).1;have hwi:=wrap_succ hA h1.ml;have gy:=getD_past hB;have hf:=fin (c + a.getD i 0) (by omega)
      have hob1:=L.push okI hg (by omega) ((c + a.getD i 0).tmod 10000)
      obtain ⟨v3,H3,p3,L3⟩:=hob1;have b3:=bsI H2 ((c + a.getD i 0).tmod 10000);have hcz':a.length < i + 1 ∧ b.length < i + 1 → (c + a.getD i 0).tdiv 10000 = 0:=fun hh => by rw [Int.tdiv_eq_ediv_of_nonneg (by omega)]; omega
      clear h1 h2 hsa' hsb' ha hb hov fin;generalize a.getD i 0 = x at *;have f1:IntKind.i64.wrap (c + x) = c + x:=IntWalk.i64_in _ (by omega)
      have hb0:¬ (10000:Int) = 0:=by omega
      have hdv:IntKind.i64.wrap ((c + x).tdiv 10000) = (c + x).tdiv 10000:=IntWalk.i64_in _ (by rw [Int.tdiv_eq_ediv_of_nonneg (by omega)]; omega)
      repeat' simp only [↓Zabr,↓Zabo,↓Zabq,↓Zaag,↓Zabl,↓Zabn,↓Zaci,↓Zach,↓Zacn,↓Zaav,↓Zaar,↓Zaaj,↓Zaas,↓Zaam,↓Zaaq,↓Zaak,↓Zaao,↓Zaap,↓bxOp_append,↓bxPut,↓Zabj,↓Zabi,↓Zaaf,↓Zaae,↓Zabe,↓Zabd,↓Zaco,↓Zaba,↓Zaay,↓dstAt,↓Zabb,Zacj,Zaad,Zabc,Zaac,sxGuardB_ft,Zacg,Zacf,List.map,↓reduceIte,Nat.reduceEqDiff,Nat.reduceLT,dec_T,dec_F,true_and,one1,Option.bind_some,ne_eq,not_false_eq_true, *,lenI,ldI]
      exact ⟨_,by omega,i + 1,_,_,_,rfl,by simp [hol],by omega,hf.1,hf.2.2,hcz',hf.2.1,L3,rfl,rfl,rfl⟩
  · by_cases hB:i < b.length
    · have hlt1:¬ (i:Int) < (a.length:Int):=by omega
      have hlt2:(i:Int) < (b.length:Int):=by omega
      have gx:=getD_past hA;have p2:=SlI_ix h2 hB;have q2:=((h2.keep L.keep).rdI hB).1;have hwj:=wrap_succ hB h2.ml;have hf:=fin (c + b.getD i 0) (by omega)
      have hob1:=L.push okI hg (by omega) ((c + b.getD i 0).tmod 10000)
      obtain ⟨v3,H3,p3,L3⟩:=hob1;have b3:=bsI H2 ((c + b.getD i 0).tmod 10000);have hcz':a.length < i + 1 ∧ b.length < i + 1 → (c + b.getD i 0).tdiv 10000 = 0:=fun hh => by rw [Int.tdiv_eq_ediv_of_nonneg (by omega)]; omega
      clear h1 h2 hsa' hsb' ha hb hov fin;generalize b.getD i 0 = y at *;have f2:IntKind.i64.wrap (c + y) = c + y:=IntWalk.i64_in _ (by omega)
      have hb0:¬ (10000:Int) = 0:=by omega
      have hdv:IntKind.i64.wrap ((c + y).tdiv 10000) = (c + y).tdiv 10000:=IntWalk.i64_in _ (by rw [Int.tdiv_eq_ediv_of_nonneg (by omega)]; omega)
      repeat' simp only [↓Zabr,↓Zabo,↓Zabq,↓Zaag,↓Zabl,↓Zabn,↓Zaci,↓Zach,↓Zacn,↓Zaav,↓Zaar,↓Zaaj,↓Zaas,↓Zaam,↓Zaaq,↓Zaak,↓Zaao,↓Zaap,↓bxOp_append,↓bxPut,↓Zabj,↓Zabi,↓Zaaf,↓Zaae,↓Zabe,↓Zabd,↓Zaco,↓Zaba,↓Zaay,↓dstAt,↓Zabb,Zacj,Zaad,Zabc,Zaac,Zaab,sxGuardB_ft,Zacc,Zacg,Zacf,List.map,↓reduceIte,Nat.reduceEqDiff,Nat.reduceLT,dec_T,dec_F,true_and,one1,Option.bind_some,ne_eq,not_false_eq_true, *,lenI,ldI]
      exact ⟨_,by omega,i + 1,_,_,_,rfl,by simp [hol],by omega,hf.1,hf.2.2,hcz',hf.2.1,L3,rfl,rfl,rfl⟩
    · by_cases hC:c = 1
      · have hlt1:¬ (i:Int) < (a.length:Int):=by omega
        have hlt2:¬ (i:Int) < (b.length:Int):=by omega
        have gx:=getD_past hA;have gy:=getD_past hB;have hcp:0 < c:=by omega
        clear hC;have hil:i ≤ a.length + b.length:=by
          rcases Nat.lt_or_ge (a.length + b.length) i with h | h
          · have:=hcz ⟨by omega,by omega⟩; omega
          · exact h
        have hwi:IntKind.i64.wrap ((i:Int) + 1) = ((i + 1:Nat):Int):=by rw [IntWalk.i64_in _ (by omega)]; omega
        have hf:=fin (c) (by omega)
        have hob1:=L.push okI hg (by omega) ((c).tmod 10000)
        obtain ⟨v3,H3,p3,L3⟩:=hob1;have b3:=bsI H2 ((c).tmod 10000);have hcz':a.length < i + 1 ∧ b.length < i + 1 → (c).tdiv 10000 = 0:=fun hh => by rw [Int.tdiv_eq_ediv_of_nonneg (by omega)]; omega
        clear h1 h2 hsa' hsb' ha hb hov fin;have hb0:¬ (10000:Int) = 0:=by omega
        have hdv:IntKind.i64.wrap ((c).tdiv 10000) = (c).tdiv 10000:=IntWalk.i64_in _ (by rw [Int.tdiv_eq_ediv_of_nonneg (by omega)]; omega)
        repeat' simp only [↓Zabr,↓Zabo,↓Zabq,↓Zaag,↓Zabl,↓Zabn,↓Zaci,↓Zach,↓Zacn,↓Zaav,↓Zaar,↓Zaaj,↓Zaas,↓Zaam,↓Zaaq,↓Zaak,↓Zaao,↓Zaap,↓bxOp_append,↓bxPut,↓Zabj,↓Zabi,↓Zaaf,↓Zaae,↓Zabe,↓Zabd,↓Zaco,↓Zaba,↓Zaay,↓dstAt,↓Zabb,Zacj,Zaad,Zabc,Zaab,Zacc,Zacg,Zacf,List.map,↓reduceIte,Nat.reduceEqDiff,Nat.reduceLT,dec_T,dec_F,true_and,ne_eq,not_false_eq_true, *,lenI]
        exact ⟨_,by omega,i + 1,_,_,_,rfl,by simp [hol],by omega,hf.1,hf.2.2,hcz',hf.2.1,L3,rfl,rfl,rfl⟩
      · have hc0:c = 0:=by omega
        have hlt1:¬ (i:Int) < (a.length:Int):=by omega
        have hlt2:¬ (i:Int) < (b.length:Int):=by omega
        have hcp:¬ 0 < c:=by omega
        rw [List.take_of_length_le (by omega),List.take_of_length_le (by omega),hc0,Int.mul_zero,Int.add_zero] at hov
        have hob1:=L.slF (fun z hz => by have:=hod z hz; show -9223372036854775808 ≤ z ∧ z ≤ 9223372036854775807; omega) (by show out.length ≤ 9223372036854775807; omega)
        obtain ⟨rr,sl,hfr⟩:=hob1;have hF:=L.fine;have hle:out.length ≤ a.length + b.length + 1:=by omega
        have hk:=L.keep;have hgg:=L.grp;clear h1 h2 ha hb L hol fin hc0 hc hcz hsa' hsb' hai hbi
        repeat' simp only [↓Zabr,↓Zabo,↓Zabq,↓Zaag,↓Zabl,↓Zabn,↓Zaci,↓Zach,↓Zacn,↓Zaav,↓Zaar,↓Zaaj,↓Zaas,↓Zaam,↓Zaaq,↓Zaak,↓Zaao,↓Zaap,↓bxOp_append,↓bxPut,↓Zabj,↓Zabi,↓Zaaf,↓Zaae,↓Zabe,↓Zabd,↓Zaco,↓Zaba,↓Zaay,↓dstAt,↓Zabb,Zacj,Zaad,Zabc,Zaab,Zacc,Zacf,↓reduceIte,Nat.reduceEqDiff,Nat.reduceLT,dec_F,true_and, *,lenI]
        exact ⟨out,rr,0,hod,hov,hle,sl,hfr⟩
end Go.Proofs.YtdfjaoncabanbaaDoor
