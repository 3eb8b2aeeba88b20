/-
  Layer 11: the law of whole objects, of packages pool and obj that do what they must.
-/
import Derived.Test.YtjmifnljckmimaaGreatChainsEtc
import Derived.Test.YtjmifnljckmimaaGreatRecsEtc
namespace Go.Proofs.YtjmifnljckmimaaGreat.Pk
open Go.RowKit
set_option linter.unusedVariables false
set_option linter.unusedSimpArgs false
theorem lG{X:Nat→Prop}{w w':World}{base:Nat}{e:TypeId}{size:Nat}{v:Value}{n:Nat}{xs:List Value}(h:w.ownsRow base e size v n xs)(t:Touch X w w')(hx:∀b,base≤b→¬X b):w'.ownsRow base e size v n xs:=by
 refine⟨h.1,?_⟩
 rcases h.2 with hn|⟨g,cap,cur,rfl,hbg,hgg,rest⟩
 ·exact .inl hn
 ·exact .inr ⟨g,cap,cur,rfl,hbg,(t.block g (lt_of_block hgg) (hx g hbg)).trans hgg,rest⟩
def Whole(os:List Ob)(ms:List Int):Prop:=ms.length=os.length∧∀x,x∈ms→∃o,o∈os∧(o.h:Int)+1=x∧0∉o.lv
theorem Whole.more{os:List Ob}{ms:List Int}(h:Whole os ms)(a np nd:Nat)(ls:List Nat):Whole (os++[eZ a np nd ls]) (ms++[(a:Int)+1]):=by
 refine⟨by simp[h.1],fun x hx=> ?_⟩
 rcases List.mem_append.1 hx with hx|hx
 ·obtain⟨o,h1,h2,h3⟩:=h.2 x hx
  exact⟨o,by simp[h1],h2,h3⟩
 ·simp at hx
  exact⟨eZ a np nd ls,by simp,hx.symm,by simp[eZ]⟩
end Go.Proofs.YtjmifnljckmimaaGreat.Pk
