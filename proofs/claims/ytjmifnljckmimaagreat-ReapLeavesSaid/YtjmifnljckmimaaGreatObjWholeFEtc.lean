/-
  Layer 11: the law of whole objects, of packages pool and obj that do what they must.
-/
import Derived.Test.YtjmifnljckmimaaGreatChainsEtc
import Derived.Test.YtjmifnljckmimaaGreatRecsEtc
namespace Go.Proofs.YtjmifnljckmimaaGreat.Pk
open Go.RowKit
set_option linter.unusedVariables false
set_option linter.unusedSimpArgs false
theorem lC{X:Nat→Prop}{w w':World}{base:Nat}{e:TypeId}{size:Nat}{v:Value}{n:Nat}{xs:List Value}(h:w.ownsRow base e size v n xs)(t:Touch X w w')(hx:∀b,base≤b→¬X b):w'.ownsRow base e size v n xs:=by
 refine⟨h.1,?_⟩
 rcases h.2 with hn|⟨g,cap,cur,rfl,hbg,hgg,rest⟩
 ·exact .inl hn
 ·exact .inr ⟨g,cap,cur,rfl,hbg,(t.block g (lt_of_block hgg) (hx g hbg)).trans hgg,rest⟩
end Go.Proofs.YtjmifnljckmimaaGreat.Pk
