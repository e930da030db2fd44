/- Look and Then. -/
import Derived.Test.YteechkbnccpicaaT4
set_option linter.unusedVariables false
set_option linter.unusedSimpArgs false
set_option linter.unusedSectionVars false

namespace Go.Proofs.Yteechkbnccpicaa
open Go Go.AM
set_option maxRecDepth 10000

def LookQ (w:List Pt) (z v e:Int):Prop:=
  (¬ (ProfOk w ∧ 0 ≤ z ∧ z ≤ 20000) → v = 0 ∧ e = 2) ∧
  (ProfOk w ∧ 0 ≤ z ∧ z ≤ 20000 → ∃ i,FirstP w z i ∧ (i < w.length → v = (w.getD i default).2 ∧ e = 0) ∧ (¬ i < w.length → v = 0 ∧ e = 10))
theorem LookQ.eq {w:List Pt} {z v e v' e':Int} (h:LookQ w z v e) (k:LookQ w z v' e'):v = v' ∧ e = e':=by
  by_cases hg:ProfOk w ∧ 0 ≤ z ∧ z ≤ 20000
  · obtain ⟨i,h1,h2,h3⟩:=h.2 hg;obtain ⟨j,k1,k2,k3⟩:=k.2 hg;obtain rfl:=h1.eq k1
    by_cases hi:i < w.length
    · have:=h2 hi; have:=k2 hi; omega
    · have:=h3 hi; have:=k3 hi; omega
  · have:=h.1 hg; have:=k.1 hg; omega
def ThenTo (A B:List Pt) (wait:Int) (n:Nat) (d a:Int):Prop:=∃ k,k < n ∧ d = (A.getD k default).1 ∧ ∃ i,FirstP B ((A.getD k default).2 + wait) i ∧ i < B.length ∧ a = (B.getD i default).2
theorem ThenTo.succ {A B:List Pt} {wait:Int} {n:Nat} {d a:Int}:ThenTo A B wait (n + 1) d a ↔ ThenTo A B wait n d a ∨ (d = (A.getD n default).1 ∧ ∃ i,FirstP B ((A.getD n default).2 + wait) i ∧ i < B.length ∧ a = (B.getD i default).2):=by
  constructor
  · rintro ⟨k,hk,h⟩;rcases Nat.lt_or_ge k n with h1 | h1
    · exact .inl ⟨k,h1,h⟩
    · rw [show k = n by omega] at h; exact .inr h
  · rintro (⟨k,hk,h⟩ | h)
    · exact ⟨k,by omega,h⟩
    · exact ⟨n,Nat.lt_succ_self n,h⟩
def GoodT (A B:List Pt) (wait:Int):Prop:=ProfOk A ∧ ProfOk B ∧ 0 ≤ wait ∧ wait ≤ 100
def PostThen (H:Heap) (A B:List Pt) (wait:Int) (u:Value) (H':Heap):Prop:=
  ∃ (x:Value) (e:Int) (R:List Pt),u = .tuple ⟨[x,.int .i64 e]⟩ ∧ PtsIn H H' x R.toArray ∧ R.length ≤ A.length ∧ (¬ GoodT A B wait → e = 2 ∧ R = []) ∧ (GoodT A B wait → e = 0 ∧ BestOf (ThenP A B wait) R)
theorem PtsIn.nil {H0 H:Heap} (hk:Keep H0 H) (hg:Grp H0):PtsIn H0 H (.slice none 0 0) ([] : List Pt).toArray:=⟨(fun i hi => absurd hi (Nat.not_lt_zero i)),Nat.zero_le _,hg,hk,.inl ⟨rfl,rfl⟩⟩
theorem bdS (x y:Int):aBuild Try.prog 40 [(0,.int .i64 x),(1,.int .i64 y)] = some (.agg ⟨[.int .i64 x,.int .i64 y]⟩):=by kernel_rfl

variable {S:AM.Sys} (hS:Only S 11)
include hS

end Go.Proofs.Yteechkbnccpicaa

namespace Go.Proofs.Yteechkbnccpicaa
open Go Go.AM
set_option maxRecDepth 10000

theorem bsI (H:Heap) (z:Int):aBuildSlice Try.prog H 25 1 [(0,.int .i64 z)] = some (.slice (some ⟨H.size,0,none⟩) 1 1,H.newExact [.int .i64 z] 3):=by kernel_rfl
theorem bdW (fr to at' by':Int):aBuild Try.prog 72 [(0,.int .i64 fr),(1,.int .i64 to),(2,.int .i64 at'),(3,.int .i64 by')] = some (.agg ⟨[.int .i64 fr,.int .i64 to,.int .i64 at',.int .i64 by']⟩):=by kernel_rfl
theorem newT (H:Heap) (a:Option Addr) (n c:Nat) (ch:Int) (a2:Option Addr) (n2 c2:Nat):∃ H2,aStore Try.prog (H.newExact [.slice none 0 0,.int .i64 0,.slice none 0 0] 64) 64 (.pointer (some ⟨H.size,0,none⟩)) (.agg ⟨[.slice a n c,.int .i64 ch,.slice a2 n2 c2]⟩) = some H2 ∧ Keep H H2 ∧ H2.read H.size 0 3 = some [.slice a n c,.int .i64 ch,.slice a2 n2 c2]:=by
  obtain ⟨i,hi,hsz⟩:=infoT;obtain ⟨H2,h1,h2,h3,h4,h5⟩:=(Own.new H [.slice none 0 0,.int .i64 0,.slice none 0 0] 64).store (t:=64) hi (v:=.agg ⟨[.slice a n c,.int .i64 ch,.slice a2 n2 c2]⟩) (new:=[.slice a n c,.int .i64 ch,.slice a2 n2 c2]) rfl (by rw [hsz]; rfl) rfl (o:=0) (by show 0 + 3 ≤ 3; decide)
  refine ⟨H2,h1,h5 H (Keep.newExact _ _ _) (Nat.le_refl _),?_⟩;have h2:Own H2 H.size 64 [.slice a n c,.int .i64 ch,.slice a2 n2 c2]:=h2;exact h2.read (o:=0) (n:=3) (by show 0 + 3 ≤ 3; decide)
theorem one_sl (H:Heap) (z:Int) (hz:R64 z):SlI .i64 (H.newExact [.int .i64 z] 3) (.slice (some ⟨H.size,0,none⟩) [z].length 1) [z] H.size 0:=by
  exact Own.sl (w:=[z]) (Own.new H [.int .i64 z] 3) (fun x hx => by rw [List.mem_singleton.1 hx]; exact hz) (show 1 ≤ Go.maxLen by decide) 1
theorem errC_zero {n:Int} {ls:List Lg} {ch fr to:Int} {ts:List Int} (h:errC n ls ch fr to ts = 0):ls.length ≤ 60 ∧ (∀ x ∈ ls,LegOk n x) ∧ (0 ≤ ch ∧ ch ≤ 100) ∧ (∀ z ∈ ts,0 ≤ z ∧ z ≤ 10000):=by
  unfold errC at h
  by_cases h1:¬ (1 ≤ n ∧ n ≤ 8)
  · rw [if_pos h1] at h; exact absurd h (by decide)
  rw [if_neg h1] at h
  by_cases h2:60 < ls.length
  · rw [if_pos h2] at h; exact absurd h (by decide)
  rw [if_neg h2] at h
  by_cases h3:¬ ∀ x ∈ ls,LegOk n x
  · rw [if_pos h3] at h; exact absurd h (by decide)
  rw [if_neg h3] at h
  by_cases h4:¬ (0 ≤ ch ∧ ch ≤ 100) ∨ ¬ (0 ≤ fr ∧ fr ≤ n - 1) ∨ ¬ (0 ≤ to ∧ to ≤ n - 1)
  · rw [if_pos h4] at h; exact absurd h (by decide)
  rw [if_neg h4] at h
  by_cases h5:¬ ∀ z ∈ ts,0 ≤ z ∧ z ≤ 10000
  · rw [if_pos h5] at h; exact absurd h (by decide)
  exact ⟨by omega,Classical.not_not.1 h3,Classical.not_not.1 fun hh => h4 (.inl hh),Classical.not_not.1 h5⟩

end Go.Proofs.Yteechkbnccpicaa
