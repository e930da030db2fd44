/- Whole numbers of any size, continued: the sum. -/
import Derived.Test.YtcmaipijkjillaaDoorBH
import Derived.Test.YtcmaipijkjillaaDoorBCn
import Derived.Test.YtcmaipijkjillaaDoorBF
set_option linter.unusedVariables false
set_option linter.unusedSimpArgs false
set_option linter.unusedSectionVars false

namespace Go.Proofs.YtcmaipijkjillaaDoor
open Go Go.AM
set_option maxRecDepth 10000

theorem BigIs.addr0 {H:Heap} {v:Value} {z:Int} {lo l:Nat} (h:BigIs H v z lo):BigIs (H.relow l) v z lo:=by
  obtain ⟨v',w,r,o,h1,h2,h3⟩:=h;exact ⟨v',w,r,o,h1,⟨h2.isv,h2.rd,h2.lt,h2.ml⟩,h3⟩
theorem SlI.addr0 {k:IntKind} {H:Heap} {v:Value} {w:List Int} {r o l:Nat} (h:SlI k H v w r o):SlI k (H.relow l) v w r o:=⟨h.isv,h.rd,h.lt,h.ml⟩
variable {S:AM.Sys} (hS:Only S 6)
include hS

end Go.Proofs.YtcmaipijkjillaaDoor

namespace Go.Proofs.YtcmaipijkjillaaDoor
open Go Go.AM
set_option maxRecDepth 10000

theorem BigIs.short {H:Heap} {v:Value} {z:Int} {lo:Nat} (h:BigIs H v z lo) {k:Nat} (hz:(z.natAbs:Int) < 10000 ^ k):BigIs H v z k:=by
  obtain ⟨v',w,r',o',h1,h2,h3,h4,h5,h6⟩:=h;refine ⟨v',w,r',o',h1,h2,h3,h4,h5,?_⟩;rcases Nat.lt_or_ge k w.length with hk | hk
  · exfalso;have h7:=(Dg.of h3 h4).ge (by omega)
    rw [Int.toNat_of_nonneg h3.nonneg,h5] at h7;have h8:=pow_mono (show k ≤ w.length - 1 by omega)
    omega
  · exact hk

def QV (H:Heap) (v:Value) (n d:Int):Prop:=
  ∃ n' d':Int,QIs H v n' d' 400 ∧ 0 < d' ∧ n'.natAbs.gcd d'.natAbs = 1 ∧ n' * d = n * d'

theorem QV.keep {H H':Heap} {v:Value} {n d:Int} (h:QV H v n d) (hk:Keep H H'):QV H' v n d:=by
  obtain ⟨n',d',⟨s1,w1,s2,w2,h1,h2,h3⟩,h4⟩:=h;exact ⟨n',d',⟨s1,w1,s2,w2,h1,h2.keep hk,h3.keep hk⟩,h4⟩
theorem QV.addr {H:Heap} {v:Value} {n d:Int} {l:Nat} (h:QV H v n d):QV (H.relow l) v n d:=by
  obtain ⟨n',d',⟨s1,w1,s2,w2,h1,h2,h3⟩,h4⟩:=h;exact ⟨n',d',⟨s1,w1,s2,w2,h1,h2.addr0,h3.addr0⟩,h4⟩
theorem QV.as {H:Heap} {v:Value} {n d n2 d2:Int} (h:QV H v n d) (hd:0 < d) (he:n * d2 = n2 * d):QV H v n2 d2:=by
  obtain ⟨n',d',h1,h2,h3,h4⟩:=h;refine ⟨n',d',h1,h2,h3,?_⟩;have h5:d * (n' * d2) = d * (n2 * d'):=by
    calc d * (n' * d2) = (n' * d) * d2:=by rw [Int.mul_comm n' d,Int.mul_assoc]
      _ = (n * d') * d2:=by rw [h4]
      _ = (n * d2) * d':=by rw [Int.mul_assoc,Int.mul_comm d' d2,← Int.mul_assoc]
      _ = (n2 * d) * d':=by rw [he]
      _ = d * (n2 * d'):=by rw [Int.mul_comm n2 d,Int.mul_assoc]
  exact Int.eq_of_mul_eq_mul_left (by omega) h5
theorem low_le {n d n' d':Int} (hd:0 < d) (h2:0 < d') (h3:n'.natAbs.gcd d'.natAbs = 1) (h4:n' * d = n * d'):d' ≤ d ∧ n'.natAbs ≤ n.natAbs:=by
  have h5:n'.natAbs * d.natAbs = n.natAbs * d'.natAbs:=by rw [← Int.natAbs_mul,← Int.natAbs_mul,h4]
  have h6:d'.natAbs ∣ n'.natAbs * d.natAbs:=⟨n.natAbs,by rw [h5,Nat.mul_comm]⟩
  have h7:d'.natAbs ∣ d.natAbs:=(Nat.Coprime.symm h3).dvd_of_dvd_mul_left h6;have h8:n'.natAbs ∣ n.natAbs * d'.natAbs:=⟨d.natAbs,h5.symm⟩;have h9:n'.natAbs ∣ n.natAbs:=(show Nat.Coprime n'.natAbs d'.natAbs from h3).dvd_of_dvd_mul_right h8
  have h10:=Nat.le_of_dvd (by omega) h7
  refine ⟨by omega,?_⟩
  rcases Nat.eq_zero_or_pos n.natAbs with h0 | h0
  · have:n'.natAbs * d.natAbs = 0:=by rw [h5,h0,Nat.zero_mul]
    rcases Nat.mul_eq_zero.1 this with h | h <;> omega
  · exact Nat.le_of_dvd h0 h9
theorem QV.short {H:Heap} {v:Value} {n d:Int} (h:QV H v n d) (hd:0 < d) {k:Nat} (b1:(n.natAbs:Int) < 10000 ^ k) (b2:d < 10000 ^ k) :
    ∃ n' d':Int,QIs H v n' d' k ∧ 0 < d' ∧ n'.natAbs.gcd d'.natAbs = 1 ∧ n' * d = n * d':=by
  obtain ⟨n',d',⟨s1,w1,s2,w2,h1,h2,h3⟩,h4,h5,h6⟩:=h;have h7:=low_le hd h4 h5 h6;exact ⟨n',d',⟨s1,w1,s2,w2,h1,h2.short (by omega),h3.short (by omega)⟩,h4,h5,h6⟩
theorem QV.of {H:Heap} {v:Value} {x y:Int} (hy:0 < y) (h:QIs H v (x / ((Nat.gcd x.natAbs y.toNat:Nat):Int)) (y / ((Nat.gcd x.natAbs y.toNat:Nat):Int)) 400):QV H v x y:=by
  have hyn:y.natAbs = y.toNat:=by omega
  have hgp:0 < Nat.gcd x.natAbs y.toNat:=Nat.gcd_pos_of_pos_right _ (by omega)
  have hdx:((Nat.gcd x.natAbs y.toNat:Nat):Int) ∣ x:=Int.ofNat_dvd_left.2 (Nat.gcd_dvd_left _ _);have hdy:((Nat.gcd x.natAbs y.toNat:Nat):Int) ∣ y:=Int.ofNat_dvd_left.2 (hyn ▸ Nat.gcd_dvd_right _ _);refine ⟨_,_,h,Int.ediv_pos_of_pos_of_dvd hy (by omega) hdy,?_,?_⟩
  · rw [Int.natAbs_ediv_of_dvd hdx,Int.natAbs_ediv_of_dvd hdy,hyn,Int.natAbs_natCast];exact Nat.coprime_div_gcd_div_gcd hgp
  · generalize ((Nat.gcd x.natAbs y.toNat:Nat):Int) = G at *;obtain ⟨p,rfl⟩:=hdx;obtain ⟨q,rfl⟩:=hdy;have hG:G ≠ 0:=fun h0 => by subst h0; omega
    rw [Int.mul_ediv_cancel_left _ hG,Int.mul_ediv_cancel_left _ hG,← Int.mul_assoc,Int.mul_comm p G,]

variable {S:AM.Sys} (hS:Only S 6)
include hS

theorem lowest_all (v1 v2:Value) (x y:Int) (l1 l2:Nat) (H:Heap) (hg:Grp H) (hL:H.low ≤ H.size) (hy:0 < y) (h1:BigIs H v1 x l1) (h2:BigIs H v2 y l2) (hl1:l1 ≤ 400) (hl2:l2 ≤ 400):∃ H' v,Keep H H' ∧ Grp H' ∧ QV H' v x y ∧ Runs Tryd.prog S (.fn 34) [v1,v2] H v H':=by
  by_cases hx:x < 0
  · obtain ⟨H',v,k1,k2,k3,k4⟩:=lowest_neg hS v1 v2 x y l1 l2 H hg hL hx hy h1 h2 hl1 hl2;exact ⟨H',v,k1,k2,QV.of hy k3,k4⟩
  · obtain ⟨H',v,k1,k2,k3,k4⟩:=lowest_runs hS v1 v2 x y l1 l2 H hg hL (by omega) hy h1 h2 hl1 hl2
    have hxn:x.natAbs = x.toNat:=by omega
    rw [← hxn] at k3;exact ⟨H',v,k1,k2,QV.of hy k3,k4⟩
theorem Frac_all (x y:Int) (H:Heap) (hg:Grp H) (hL:H.low ≤ H.size) (hx:0 ≤ x) (hy:0 < y) (hx2:x ≤ 9223372036854775807) (hy2:y ≤ 9223372036854775807):∃ H' v,Keep H H' ∧ Grp H' ∧ QV H' v x y ∧ Runs Tryd.prog S (.fn 12) [.int .i64 x,.int .i64 y] H v H':=by
  obtain ⟨H',v,k1,k2,k3,k4⟩:=Frac_runs hS x y H hg hL hx hy hx2 hy2;have hxn:x.natAbs = x.toNat:=by omega
  rw [← hxn] at k3;exact ⟨H',v,k1,k2,QV.of hy k3,k4⟩
end Go.Proofs.YtcmaipijkjillaaDoor
