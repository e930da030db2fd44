/- Greatest common divisors, shares and lowest terms, on the canonical machine. -/
import Derived.Test.YtpeoleimmabceaaGreatE1
import Derived.Test.YtpeoleimmabceaaGreatGj
set_option linter.unusedVariables false
set_option linter.unusedSimpArgs false
set_option linter.unusedSectionVars false

namespace Go.Proofs.YtpeoleimmabceaaGreat.Q
open Go Go.AM
set_option maxRecDepth 10000

def gcdAll (d:Int) (w:List Int):Int:=w.foldl (fun a b => ((Nat.gcd a.toNat b.toNat:Nat):Int)) d
theorem gcdAll_take (d:Int) (w:List Int) {k:Nat} (h:k < w.length):gcdAll d (w.take (k + 1)) = ((Nat.gcd (gcdAll d (w.take k)).toNat (w.getD k 0).toNat:Nat):Int):=by
  unfold gcdAll;rw [List.take_add_one,List.getElem?_eq_getElem h,List.getD_eq_getElem?_getD,List.getElem?_eq_getElem h];rw [List.foldl_append];rfl
theorem gcdAll_pos (d:Int) (w:List Int) (h:0 < d):0 < gcdAll d w ∧ gcdAll d w ≤ d:=by
  unfold gcdAll
  induction w generalizing d with
  | nil => exact ⟨h,Int.le_refl _⟩
  | cons a l ih =>
    have h1:0 < Nat.gcd d.toNat a.toNat:=Nat.gcd_pos_of_pos_left _ (by omega)
    have h2:Nat.gcd d.toNat a.toNat ≤ d.toNat:=Nat.gcd_le_left _ (by omega)
    have:=ih ((Nat.gcd d.toNat a.toNat:Nat):Int) (by omega)
    exact ⟨this.1,by simp only [List.foldl_cons]; omega⟩

theorem fldP0 (r o:Nat):aFieldAt Tryz.prog 26 0 (.pointer (some ⟨r,o,none⟩)) = some (.pointer (some ⟨r,o,none⟩)):=by kernel_rfl
theorem fldP1 (r o:Nat):aFieldAt Tryz.prog 26 1 (.pointer (some ⟨r,o,none⟩)) = some (.pointer (some ⟨r,o + 1,none⟩)):=by kernel_rfl
theorem ldIs (H:Heap) (r o:Nat):aLoad Tryz.prog H 22 (.pointer (some ⟨r,o,none⟩)) = (H.read r o 1).bind one1:=by kernel_rfl
theorem ldP (H:Heap) (r o:Nat):aLoad Tryz.prog H 26 (.pointer (some ⟨r,o,none⟩)) = (H.read r o 2).map fun l => .agg ⟨l⟩:=by kernel_rfl
theorem cells_agg (l:List Value):(Value.agg ⟨l⟩).cells.toList = l:=rfl
theorem boxP (H:Heap) (v u:Value):∃ H1,H.newExact [v,u] 26 = H1 ∧ Keep H H1 ∧ H.size < H1.size ∧ H1.read H.size 0 2 = some [v,u] ∧ H1.read H.size 0 1 = some [v] ∧ H1.read H.size (0 + 1) 1 = some [u]:=by
  obtain ⟨H1,e1,hK1,hz1,_,hr1⟩:=box1 H [v,u] 26;exact ⟨H1,e1,hK1,hz1,hr1 0 2 (by show 0 + 2 ≤ 2; omega),hr1 0 1 (by show 0 + 1 ≤ 2; omega),hr1 (0 + 1) 1 (by show 0 + 1 + 1 ≤ 2; omega)⟩

variable {S:AM.Sys} (hS:Only S 5)
include hS

theorem cdiv_runs (v:Value) (w:List Int) (d:Int) (r o:Nat) (H:Heap) (hl:SlI .i64 H v w r o) (hp:∀ x ∈ w,0 ≤ x) (hd:0 < d ∧ d ≤ 9223372036854775807):∃ H',Keep H H' ∧ Runs Tryz.prog S (.fn 43) [.agg ⟨[v,.int .i64 d]⟩] H (.int .i64 (gcdAll d w)) H':=by
  suffices h:WCall Tryz.prog S (.fn 43) [.agg ⟨[v,.int .i64 d]⟩] H (fun v H' => v = .int .i64 (gcdAll d w) ∧ Keep H H') by
    obtain ⟨_,H',hr,rfl,hk⟩:=h; exact ⟨H',hk,hr⟩
  obtain ⟨a,cap,rfl⟩:=hl.v0;refine Zaaw Tryz.func43 rfl (Nat.le_of_ble_eq_true rfl) (hS.no rfl _ _) ?_
  rw [Tryz.ntmps43,Tryz.results43];obtain ⟨H1,e1,hK1,hz1,rd2,rd0,rd1⟩:=boxP H (.slice a w.length cap) (.int .i64 d)
  repeat' (first | (with_reducible refine Zacf (fun h => ?_) (fun h => ?_)) | (with_reducible refine Zace (fun h => ?_) (fun h => ?_)) | (with_reducible refine sxIfB_sp (fun h => ?_) (fun h => ?_)) | simp only [↓Zabp,↓Zabr,↓Zaaf,↓Zabm,↓Zabq,↓Zacj,↓Zaci,↓Zaco,↓Zaaq,↓Zaaj,↓bxOp_box,↓Zaap,↓Zaam,↓Zaao,↓bxPut,↓Zabk,↓Zabi,↓Zacm,↓Zacn,↓Zacp,↓Zaba,↓Zaay,Zack,Zabg,↓reduceIte,Nat.reduceEqDiff,Nat.reduceLT,one1,Option.bind_some, *,argF,List.getD_cons_zero,lenI,cells_agg,fldP0,fldP1,ldI,ldIs])
  refine sxL_of (fun m ρ H2 => ∃ k:Nat,m = w.length - k ∧ k ≤ w.length ∧ Keep H H2 ∧ ρ 3 = .int .i64 (gcdAll d (w.take k)) ∧ ρ 9 = .slice a w.length cap ∧ ρ 10 = .int .i64 w.length ∧ ρ 11 = .int .i64 k)
    ⟨0,rfl,Nat.zero_le _,hK1,rfl,rfl,rfl,rfl⟩ ?_
  clear e1 rd0 rd1;rintro m ρ H2 ⟨k,rfl,hk,hK,e3,e9,e10,e11⟩;have hK0:=hK
  by_cases hlt:k < w.length
  · have hl2:=hl.keep hK;have hix:=SlI_ix hl2 hlt;have hrd:=(hl2.rdI hlt).1;have hw:=wrap_succ hlt hl.ml;have hlt':(k:Int) < (w.length:Int):=by omega
    have g1:=gcdAll_take d w hlt;have g2:=gcdAll_pos d (w.take k) hd.1;have g3:=hp _ (Zabb (d:=0) hlt);have g4:w.getD k 0 ≤ 9223372036854775807:=by have:=hl.rng k; have h1:IntKind.i64.max = 9223372036854775807:=rfl; omega
    generalize gcdAll d (w.take k) = D at *;clear hl hl2
    repeat' (first | (with_reducible refine Zacf (fun h => ?_) (fun h => ?_)) | (with_reducible refine Zace (fun h => ?_) (fun h => ?_)) | (with_reducible refine sxIfB_sp (fun h => ?_) (fun h => ?_)) | simp only [↓Zabs,↓Zabp,↓Zabr,↓Zaae,↓Zaaf,↓Zabm,↓Zabo,↓Zacj,↓Zaci,↓Zaco,↓Zaaq,↓Zaaj,↓Zaap,↓Zaak,↓Zaan,↓bxPut,↓Zabk,↓Zabj,↓Zaac,↓Zabf,↓Zabe,↓Zacp,↓Zaba,↓Zaay,Zack,Zaab,Zabd,Zach,↓reduceIte,Nat.reduceEqDiff,Nat.reduceLT,dec_T,one1,Option.bind_some, *,ldI])
    obtain ⟨G,hGd⟩:∃ G:Nat,G = Nat.gcd D.toNat (w.getD k 0).toNat:=⟨_,rfl⟩;rw [← hGd] at g1;refine sxL_of (fun m ρ H3 => ∃ x y:Int,m = y.toNat ∧ 0 ≤ x ∧ 0 ≤ y ∧ x ≤ 9223372036854775807 ∧ y ≤ 9223372036854775807 ∧ Nat.gcd x.toNat y.toNat = G ∧ Keep H H3 ∧ ρ 3 = .int .i64 x ∧ ρ 5 = .int .i64 y ∧ ρ 9 = .slice a w.length cap ∧ ρ 10 = .int .i64 w.length ∧ ρ 11 = .int .i64 k)
      ⟨D,w.getD k 0,rfl,by omega,g3,by omega,g4,hGd.symm,hK,by first | rfl | assumption,rfl,by first | rfl | assumption,by first | rfl | assumption,by first | rfl | assumption⟩ ?_
    clear e3 e9 e10 e11 hrd hix g3 g4 hK;rintro m ρ H3 ⟨x,y,rfl,hx,hy,hx2,hy2,hG,hK,e3,e5,e9,e10,e11⟩;clear hGd g2
    by_cases hb0:y = 0
    · subst hb0;have hG2:gcdAll d (w.take (k + 1)) = x:=by rw [g1,← hG,show (0:Int).toNat = 0 from rfl,Nat.gcd_zero_right]; omega
      clear g1 hG
      repeat' (first | (with_reducible refine Zacf (fun h => ?_) (fun h => ?_)) | (with_reducible refine Zace (fun h => ?_) (fun h => ?_)) | (with_reducible refine sxIfB_sp (fun h => ?_) (fun h => ?_)) | simp only [↓Zabs,↓Zabn,↓Zabp,↓Zabr,↓Zaae,↓Zabm,↓Zabo,↓Zacj,↓Zaci,↓Zacd,↓Zaag,↓Zacb,↓sxDL_assign,↓Zabw,↓Zaco,↓Zaaq,↓Zaaj,↓Zaak,↓bxPut,↓Zabk,↓Zabj,↓Zaad,↓Zaac,↓Zabf,↓Zabe,↓Zacp,↓Zaba,↓Zaay,Zack,Zaab,Zabd,Zacg,↓reduceIte,Nat.reduceEqDiff,Nat.reduceLT,dec_F,true_and,not_true_eq_false, *] | (with_reducible first | refine Zabv (by assumption) (by decide +kernel) ?_ | refine Zabu (by decide +kernel) ?_ | refine Zacc (by decide +kernel) ?_ | refine Zabx ?_))
      exact ⟨_,by omega,k + 1,rfl,by omega,congrArg (Value.int .i64) hG2.symm,rfl⟩
    · have hm:x.tmod y = x % y:=Int.tmod_eq_emod_of_nonneg hx;have h1:=Int.emod_nonneg x hb0;have h2:=Int.emod_lt_of_pos x (show 0 < y by omega)
      have f1:IntKind.i64.wrap (x % y) = x % y:=IntWalk.i64_in _ (by omega)
      have hg2:Nat.gcd y.toNat (x % y).toNat = G:=by
        rw [← hG,Int.toNat_emod hx hy,Nat.gcd_comm y.toNat (x.toNat % y.toNat),← Nat.gcd_rec,Nat.gcd_comm]
      repeat' (first | (with_reducible refine Zacf (fun h => ?_) (fun h => ?_)) | (with_reducible refine Zace (fun h => ?_) (fun h => ?_)) | (with_reducible refine sxIfB_sp (fun h => ?_) (fun h => ?_)) | simp only [↓Zabs,↓Zabn,↓Zabp,↓Zabr,↓Zaae,↓Zabm,↓Zabo,↓Zacj,↓Zaci,↓Zacd,↓Zaag,↓Zacb,↓sxDL_assign,↓Zabw,↓Zaco,↓Zaaq,↓Zaaj,↓Zaak,↓bxPut,↓Zabk,↓Zabj,↓Zaad,↓Zaac,↓Zabf,↓Zabe,↓Zacp,↓Zaba,↓Zaay,Zack,Zaab,Zabd,Zach,↓reduceIte,Nat.reduceEqDiff,Nat.reduceLT,dec_T,and_true,and_self,size_relow,low_relow,relow_relow,ne_eq,not_false_eq_true, *] | (with_reducible first | refine Zabv (by assumption) (by decide +kernel) ?_ | refine Zabu (by decide +kernel) ?_ | refine Zacc (by decide +kernel) ?_ | refine Zabx ?_))
      refine ⟨_,?_,y,x % y,rfl,hy,h1,hy2,by omega,hg2,?_,rfl,rfl⟩
      · omega
      · have z1:min H.low H.size ≤ H3.size:=Nat.le_trans (Nat.min_le_right _ _) hK.size;exact { size:=hK.size,low:=fun _ => Nat.min_le_right _ _,lo:=by repeat' (first | exact hK.lo | exact z1 | refine Nat.le_min.2 ⟨?_,?_⟩),row:=hK.row,grp:=hK.grp,mem:=hK.mem }
  · have hlt':¬ (k:Int) < (w.length:Int):=by omega
    obtain rfl:k = w.length:=by omega
    have g:gcdAll d (w.take w.length) = gcdAll d w:=by rw [List.take_length]
    clear hl
    repeat' (first | (with_reducible refine Zacf (fun h => ?_) (fun h => ?_)) | (with_reducible refine Zace (fun h => ?_) (fun h => ?_)) | (with_reducible refine sxIfB_sp (fun h => ?_) (fun h => ?_)) | simp only [↓Zabs,↓Zabp,↓Zabr,↓Zaae,↓Zaaf,↓Zabm,↓Zabo,↓Zacj,↓Zaci,↓Zaco,↓Zaaq,↓Zaaj,↓Zaap,↓Zaak,↓Zaan,↓bxPut,↓Zabk,↓Zabj,↓Zaac,↓Zabf,↓Zabe,↓Zacp,↓Zaba,↓Zaay,Zack,Zaab,Zabd,Zacg,↓reduceIte,Nat.reduceEqDiff,Nat.reduceLT,dec_F,and_self, *])

def Shr (e:Int) (c:List Int) (w:List Int) (d:Int):Prop:=w.length = c.length ∧ (1 ≤ d ∧ d ≤ 1000000) ∧ (∀ i,i < w.length → 0 ≤ w.getD i 0 ∧ w.getD i 0 ≤ c.getD i 0 * d) ∧ w.sum = e * d ∧ gcdAll d w = 1
instance (e:Int) (c:List Int) (w:List Int) (d:Int):Decidable (Shr e c w d):=by unfold Shr; infer_instance

end Go.Proofs.YtpeoleimmabceaaGreat.Q
