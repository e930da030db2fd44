/- A timetable's profile. -/
import Derived.Test.YteechkbnccpicaaL2
import Derived.Test.YteechkbnccpicaaT6
set_option linter.unusedVariables false
set_option linter.unusedSimpArgs false
set_option linter.unusedSectionVars false

namespace Go.Proofs.Yteechkbnccpicaa
open Go Go.AM
set_option maxRecDepth 10000

structure TT (ls:List Lg) (a:Option Addr) (c r o:Nat) (ch:Int) (ro:Nat) (R:Array Int) (H:Heap):Prop where
  legs:SlG H (.slice a ls.length c) ls r o
  few:ls.length ≤ 60
  ord:Own H ro 3 (R.toList.map fun z => .int .i64 z)
  ok:OrdOk ls R
  leg:LOk ls ch
section
variable {ls:List Lg} {a:Option Addr} {c r o:Nat} {ch:Int} {ro:Nat} {R:Array Int} {H H':Heap}
theorem TT.keep (h:TT ls a c r o ch ro R H) (hk:Keep H H'):TT ls a c r o ch ro R H':=⟨h.legs.keep hk,h.few,h.ord.keep hk,h.ok,h.leg⟩
theorem TT.fit (h:TT ls a c r o ch ro R H):∀ i,i < ls.length → Fit ch (ls.getD i default):=fun i hi => by
  have h1:=h.leg.leg i hi;have h2:=h.leg.ch;exact ⟨by omega,by omega⟩
end
def tvo (ls:List Lg) (a:Option Addr) (c:Nat) (ch:Int) (ro:Nat):Value:=tv a ls.length c ch (.slice (some ⟨ro,0,none⟩) ls.length ls.length)
def JP (ls:List Lg) (ch fr to:Int) (d a:Int):Prop:=∃ i r,Ch ls ch i r ∧ (ls.getD i default).f = fr ∧ (ls.getD i default).d = d ∧ (ls.getD (lastN i r) default).t = to ∧ (ls.getD (lastN i r) default).a = a
def woA (to by':Int) (x:Lg):Int:=if x.t = to ∧ x.a ≤ by' then x.a else 10060
def woC (to by':Int) (x:Lg):Int:=if x.t = to ∧ x.a ≤ by' then 1 else 10060
def PtsTo (ls:List Lg) (fr:Int) (d:Array Int) (k:Nat) (x y:Int):Prop:=∃ i,i < k ∧ d[i]! < 10060 ∧ (ls.getD i default).f = fr ∧ x = (ls.getD i default).d ∧ y = d[i]!
theorem PtsTo.succ {ls:List Lg} {fr:Int} {d:Array Int} {k:Nat} {x y:Int}:PtsTo ls fr d (k + 1) x y ↔ PtsTo ls fr d k x y ∨ (d[k]! < 10060 ∧ (ls.getD k default).f = fr ∧ x = (ls.getD k default).d ∧ y = d[k]!):=by
  constructor
  · rintro ⟨i,hi,h⟩;rcases Nat.lt_or_ge i k with h1 | h1
    · exact .inl ⟨i,h1,h⟩
    · rw [show i = k by omega] at h; exact .inr h
  · rintro (⟨i,hi,h⟩ | h)
    · exact ⟨i,by omega,h⟩
    · exact ⟨k,Nat.lt_succ_self k,h⟩
variable {S:AM.Sys} (hS:Only S 11)
include hS

def PostP (ls:List Lg) (ch fr to:Int) (H:Heap) (u:Value) (H':Heap):Prop:=∃ Q:List Pt,PtsIn H H' u Q.toArray ∧ Q.length ≤ ls.length ∧ (fr = to → Q = []) ∧ (fr ≠ to → BestOf (JP ls ch fr to) Q)

end Go.Proofs.Yteechkbnccpicaa
