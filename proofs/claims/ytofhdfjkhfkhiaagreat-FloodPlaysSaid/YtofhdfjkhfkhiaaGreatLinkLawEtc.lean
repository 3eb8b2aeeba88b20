/-
  Texts laid together: LinkLaw, TallyFn, FloodFn.
-/
import Derived.Test.YtofhdfjkhfkhiaaGreatGravNamEtc
import Derived.Test.YtofhdfjkhfkhiaaGreatRingFnEtc
import Derived.Test.YtofhdfjkhfkhiaaGreatTagFnEtc
namespace Go.Proofs.YtofhdfjkhfkhiaaGreat.Pk
open Lib (hid)
open Go.RowKit
set_option linter.unusedVariables false
set_option linter.unusedSimpArgs false
set_option maxRecDepth 100000
section
variable {c:Cf} {D:Wd} {t:Th} {zs:List Int} {x y:Int} {w wr:World} {p:Pl}
structure BornOk (D:Wd) (x y:Int) (N:Nat):Prop where
 san:San D→San (D.jl x y)
 new:D.mkE x y=0→∃t,(D.jl x y).find (D.mkR x y)=some t∧t.h=D.mkB∧t.mr=Mrk.new
 fresh:D.mkE x y=0→∀t,t∈D.live→t.h≠D.mkB
 lt:D.mkE x y=0→D.mkB<N
theorem RSt.zN(h:RSt w p c (D.jl x y) wr):BornOk D x y c.N:=by
 have hs:San D→San (D.jl x y):=fun S=>S.jl h
 obtain⟨zs,m,hG,hR,_⟩:=h
 have key:D.mkE x y=0→(∃t,(D.jl x y).find (D.mkR x y)=some t∧t.h=D.mkB∧t.mr=Mrk.new)∧(∀t,t∈D.live→t.h≠D.mkB)∧D.mkB<c.N:=fun h0=>by
  have eR:D.mkR x y=(D.mkB:Int)+1:=by unfold Wd.mkR;rw[if_pos h0]
  have eD:D.jl x y=D.made D.mkB (D.clean.tail.take (D.uI x y)) (D.clean.tail.drop (D.uI x y)) x.toNat y.toNat:=by unfold Wd.jl;rw[if_pos h0]
  rw[eD] at hR ⊢
  rw[eR]
  generalize D.clean.tail.take (D.uI x y)=ls at*
  generalize D.clean.tail.drop (D.uI x y)=cl at*
  have hl:=iT (D:=D) (b:=D.mkB) (ls:=ls) (cl:=cl) (np:=x.toNat) (nd:=y.toNat)
  have hm:(⟨D.mkB,ints ls,zer x.toNat,zer y.toNat,false,Mrk.new⟩:Th)∈(D.made D.mkB ls cl x.toNat y.toNat).live:=by rw[hl];simp
  have hn:=hR.nodup
  rw[hl,List.map_append,List.nodup_append] at hn
  exact⟨⟨_,hR.findIt hm,rfl,rfl⟩,fun t ht=>hn.2.2 t.h (List.mem_map.2 ⟨t,ht,rfl⟩) D.mkB (by simp),hR.hlt hm⟩
 exact⟨hs,fun h0=>(key h0).1,fun h0=>(key h0).2.1,fun h0=>(key h0).2.2⟩
theorem Ch(q:Int)(hf:D.find q=some t)(r:Int):∃m:Mrk,(D.lT r).find q=some {t with mr:=m}∧m.dead=t.mr.dead∧m.refs=t.mr.refs:=by
 unfold Wd.lT
 rw[find_mark,hf]
 by_cases e:t.at r=true
 ·exact⟨{t.mr with color:=D.parity,count:=D.parity,shade:=D.parity,shadow:=0},by simp[e],rfl,rfl⟩
 ·exact⟨t.mr,by simp[e],rfl,rfl⟩
theorem BornOk.Uv{N:Nat}(B:BornOk D x y N)(S:San D):San (D.born x y):=by
 unfold Wd.born
 split
 ·have S1:San ((D.jl x y).lT (D.mkR x y)):=(B.san S).mark _ (fun _=>rfl) (fun _=>rfl) (fun _=>rfl)
  exact S1.more _
 ·exact S
set_option maxHeartbeats 2000000 in
theorem ls_Born(c:Cf)(D:Wd)(x y:Int){wr w:World}{p:Pl}(h:RSt w p c D wr):
  Calls Tryz.prog 31 #[.pointer (some ⟨p.a,0,none⟩),.int .i64 x,.int .i64 y] wr fun e w'=>e=.returned (.tuple #[.int .i64 (D.mkR x y),.int .i64 (D.mkE x y)])∧RSt w p c (D.born x y) w'∧Touch (inG p) wr w'∧BornOk D x y c.N:=by
 have HM:=hid (JD jr c D x y h)
 clear h
 by_cases hE:D.mkE x y=0
 ·have hD:D.born x y=((D.jl x y).lT (D.mkR x y)).more (D.mkR x y):=by unfold Wd.born;rw[if_pos hE]
  have HE:=hid hE
  rw[hE] at HM
  rw[hE,hD]
  clear hE hD
  go_enter Tryz.func31,Tryz.ntmps31
  go_wp2_with fail
  refine HM.out.mono ?_
  rintro e w1 ⟨rfl,h1,hT⟩
  have HBk:=hid h1.zN
  have HS1:=hid h1
  have HT1:=hid hT
  obtain⟨t,hf,eh,em⟩:=HBk.out.new HE.out
  have h64:In64 (D.mkR x y):=by
   obtain⟨zs,m,hG,hR,_⟩:=h1
   exact ig hG.may hR hf
  obtain⟨m,hf2,_,em2⟩:=Ch (D.mkR x y) hf (D.mkR x y)
  have HDy:=hid ((tintFns.lT c (D.jl x y) (D.mkR x y) h64).as (vb (show((D.jl x y).find (D.mkR x y)).isSome=true by rw[hf];rfl)) rfl)
  have HMo:=hid (Ae (c:=c) hf2 (by show m.refs<_;rw[em2,em];decide))
  clear h1 hT hf hf2
  go_wp2_with fail
  refine(HS1.out.does HDy.out).mono ?_
  rintro e w2 ⟨rfl,h2,hT2⟩
  have HS2:=hid h2
  have HT2:=hid (HT1.out.trans hT2)
  clear h2 hT2
  go_wp2_with fail
  refine(HS2.out.does HMo.out).mono ?_
  rintro e w3 ⟨rfl,h3,hT3⟩
  have HS3:=hid h3
  have HT3:=hid (HT2.out.trans hT3)
  clear h3 hT3
  go_wp2_with fail
  go_ret2
  exact⟨rfl,HS3.out,HT3.out,HBk.out⟩
 ·have hD:D.born x y=D.jl x y:=by unfold Wd.born Wd.jl;rw[if_neg hE,if_neg hE]
  have hR:D.mkR x y=0:=by unfold Wd.mkR;rw[if_neg hE]
  have hEb:(D.mkE x y !=0)=true:=by rw[bne_iff_ne];exact hE
  rw[hR] at HM
  rw[hD,hR]
  clear hE hD hR
  go_enter Tryz.func31,Tryz.ntmps31
  go_wp2_with fail
  refine HM.out.mono ?_
  rintro e w1 ⟨rfl,h1,hT⟩
  have HBk:=hid h1.zN
  have HS1:=hid h1
  have HT1:=hid hT
  clear h1 hT
  go_wp2_with fail
  go_ret2
  exact⟨rfl,HS1.out,HT1.out,HBk.out⟩
end
theorem San.Ur{D:Wd}{r x y:Int}{i:Nat}{t:Th}(S:San D)(hf:D.find r=some t)(hd:t.mr.dead=false):San (D.put r i x y):=by
 have S1:San (D.bB r i x):=by
  unfold Wd.bB
  split
  ·exact S.setP hf i (fun h=>by rw[hd] at h;cases h)
  ·obtain⟨m,h1,h2⟩:=rY r hf x
   exact(S.more x).setP h1 i (fun h=>by have:m.dead=true:=h;rw[h2,hd] at this;cases this)
 unfold Wd.put Wd.ul
 split
 ·exact(S1.touch y).less y
 ·exact S1
section
variable {c:Cf} {zs zs1 zs2 zs3 zs4 zs5 zs6 zs7 zs8:List Int} {d1 d2 d3 d4 d5 d6 d7 d8:Nat}
set_option maxHeartbeats 1000000 in
theorem Bb{r f n n2:Int}(hn:¬f<n)(C1:Run c 99 [.int .i64 r] zs d1 zs1 (.tuple #[.int .i64 n,.int .i64 n2,.int .i64 0])):Run c 42 [.int .i64 r,.int .i64 f] zs (d1) zs1 (.bool false):=fun p m w hG=>by
 have hle:n≤f:=by omega
 have hnf:¬f<n:=hn
 clear hn
 have HG:=hid hG
 have HC1:=hid C1
 clear hG C1
 go_enter Tryz.func42,Tryz.ntmps42
 have HT0:Hid (Touch (inG p) w w):=hid (Touch.refl _ _)
 go_wp2_with fail
 refine(HC1.out p _ _ HG.out).mono ?_
 rintro e wm1 ⟨rfl,hG,hT⟩
 have HG1:=hid hG
 have HT1:Hid (Touch (inG p) _ wm1):=hid (HT0.out.trans hT)
 clear hG hT
 go_wp2_with fail
 go_ret
 exact⟨rfl,HG1.out,HT1.out⟩
set_option maxHeartbeats 1000000 in
theorem Ko{r f n n2 x e:Int}{b:Bool}(hn:f<n)(C1:Run c 99 [.int .i64 r] zs d1 zs1 (.tuple #[.int .i64 n,.int .i64 n2,.int .i64 0]))(C2:Run c 55 [.int .i64 r,.int .i64 f] zs1 d2 zs2 (.tuple #[.int .i64 x,.int .i64 e]))(C3:Run c 100 [.int .i64 x] zs2 d3 zs3 (.bool b)):Run c 42 [.int .i64 r,.int .i64 f] zs (d1+d2+d3) zs3 (.bool true):=fun p m w hG=>by
 have hle:¬n≤f:=by omega
 have hnf:f<n:=hn
 clear hn
 have HG:=hid hG
 have HC1:=hid C1
 have HC2:=hid C2
 have HC3:=hid C3
 clear hG C1 C2 C3
 go_enter Tryz.func42,Tryz.ntmps42
 have HT0:Hid (Touch (inG p) w w):=hid (Touch.refl _ _)
 go_wp2_with fail
 refine(HC1.out p _ _ HG.out).mono ?_
 rintro e wm1 ⟨rfl,hG,hT⟩
 have HG1:=hid hG
 have HT1:Hid (Touch (inG p) _ wm1):=hid (HT0.out.trans hT)
 clear hG hT
 go_wp2_with fail
 refine(HC2.out p _ _ HG1.out).mono ?_
 rintro e wm2 ⟨rfl,hG,hT⟩
 have HG2:=hid hG
 have HT2:Hid (Touch (inG p) _ wm2):=hid (HT1.out.trans hT)
 clear hG hT
 go_wp2_with fail
 refine(HC3.out p _ _ HG2.out).mono ?_
 rintro e wm3 ⟨rfl,hG,hT⟩
 have HG3:=hid hG
 have HT3:Hid (Touch (inG p) _ wm3):=hid (HT2.out.trans hT)
 clear hG hT
 go_wp2_with fail
 go_ret
 exact⟨rfl,HG3.out.gF rfl (by dsimp only;omega),HT3.out⟩
set_option maxHeartbeats 1000000 in
theorem ym{k f v:Int}(hv:v≠1)(C1:Run c 40 [] zs d1 zs1 (.tuple #[.int .i64 k,.int .i64 f]))(C2:Run c 12 [] zs1 d2 zs2 (.int .i64 v)):Run c 11 [] zs (d1+d2) zs2 (.bool false):=fun p m w hG=>by
 have hvb:(v !=1)=true:=by rw[bne_iff_ne];exact hv
 clear hv
 have HG:=hid hG
 have HC1:=hid C1
 have HC2:=hid C2
 clear hG C1 C2
 go_enter Tryz.func11,Tryz.ntmps11
 have HT0:Hid (Touch (inG p) w w):=hid (Touch.refl _ _)
 go_wp2_with fail
 refine(HC1.out p _ _ HG.out).mono ?_
 rintro e wm1 ⟨rfl,hG,hT⟩
 have HG1:=hid hG
 have HT1:Hid (Touch (inG p) _ wm1):=hid (HT0.out.trans hT)
 clear hG hT
 go_wp2_with fail
 refine(HC2.out p _ _ HG1.out).mono ?_
 rintro e wm2 ⟨rfl,hG,hT⟩
 have HG2:=hid hG
 have HT2:Hid (Touch (inG p) _ wm2):=hid (HT1.out.trans hT)
 clear hG hT
 go_wp2_with fail
 go_ret
 exact⟨rfl,HG2.out.gF rfl (by dsimp only;omega),HT2.out⟩
set_option maxHeartbeats 1000000 in
theorem EC{k f:Int}(hk:(c.N:Int)≤k)(C1:Run c 40 [] zs d1 zs1 (.tuple #[.int .i64 k,.int .i64 f]))(C2:Run c 12 [] zs1 d2 zs2 (.int .i64 1)):Run c 11 [] zs (d1+d2) zs2 (.bool false):=fun p m w hG=>by
 have hfc:=cfield0 (c.N:Int) (c.W:Int) (c.R:Int) (c.K:Int)
 have hkn:(c.N:Int)≤k:=hk
 clear hk
 have HG:=hid hG
 have HC1:=hid C1
 have HC2:=hid C2
 clear hG C1 C2
 go_enter Tryz.func11,Tryz.ntmps11
 have HT0:Hid (Touch (inG p) w w):=hid (Touch.refl _ _)
 go_wp2_with fail
 refine(HC1.out p _ _ HG.out).mono ?_
 rintro e wm1 ⟨rfl,hG,hT⟩
 have HG1:=hid hG
 have HT1:Hid (Touch (inG p) _ wm1):=hid (HT0.out.trans hT)
 clear hG hT
 go_wp2_with fail
 refine(HC2.out p _ _ HG1.out).mono ?_
 rintro e wm2 ⟨rfl,hG,hT⟩
 have HG2:=hid hG
 have HT2:Hid (Touch (inG p) _ wm2):=hid (HT1.out.trans hT)
 clear hG hT
 go_wp2_with fail
 refine(dK p c _ _ HG2.out).mono ?_
 rintro e wm3 ⟨rfl,hb⟩
 have HG3:=hid (HG2.out.later hb)
 have HT3:Hid (Touch (inG p) _ wm3):=hid (HT2.out.trans (Touch.of_below hb))
 clear hb
 go_wp2_with fail
 go_ret
 exact⟨rfl,HG3.out.gF rfl (by dsimp only;omega),HT3.out⟩
set_option maxHeartbeats 1000000 in
theorem Ba{k f:Int}{b:Bool}(h0:0≤k)(hk:k<(c.N:Int))(hm:c.May)(C1:Run c 40 [] zs d1 zs1 (.tuple #[.int .i64 k,.int .i64 f]))(C2:Run c 12 [] zs1 d2 zs2 (.int .i64 1))(C3:Run c 15 [.int .i64 (k+1)] zs2 d3 zs3 (.bool false))(C4:Run c 43 [.int .i64 (k+1),.int .i64 0] zs3 d4 zs4 (.bool b)):Run c 11 [] zs (d1+d2+d3+d4) zs4 (.bool b):=fun p m w hG=>by
 have hfc:=cfield0 (c.N:Int) (c.W:Int) (c.R:Int) (c.K:Int)
 have hmn:=hm.n
 have hkn:¬(c.N:Int)≤k:=by omega
 have hw1:IntKind.i64.wrap (k+1)=k+1:=IntWalk.i64_in _ (by omega)
 clear hm hmn
 have HG:=hid hG
 have HC1:=hid C1
 have HC2:=hid C2
 have HC3:=hid C3
 have HC4:=hid C4
 clear hG C1 C2 C3 C4
 go_enter Tryz.func11,Tryz.ntmps11
 have HT0:Hid (Touch (inG p) w w):=hid (Touch.refl _ _)
 go_wp2_with fail
 refine(HC1.out p _ _ HG.out).mono ?_
 rintro e wm1 ⟨rfl,hG,hT⟩
 have HG1:=hid hG
 have HT1:Hid (Touch (inG p) _ wm1):=hid (HT0.out.trans hT)
 clear hG hT
 go_wp2_with fail
 refine(HC2.out p _ _ HG1.out).mono ?_
 rintro e wm2 ⟨rfl,hG,hT⟩
 have HG2:=hid hG
 have HT2:Hid (Touch (inG p) _ wm2):=hid (HT1.out.trans hT)
 clear hG hT
 go_wp2_with fail
 refine(dK p c _ _ HG2.out).mono ?_
 rintro e wm3 ⟨rfl,hb⟩
 have HG3:=hid (HG2.out.later hb)
 have HT3:Hid (Touch (inG p) _ wm3):=hid (HT2.out.trans (Touch.of_below hb))
 clear hb
 go_wp2_with fail
 refine(HC3.out p _ _ HG3.out).mono ?_
 rintro e wm4 ⟨rfl,hG,hT⟩
 have HG4:=hid hG
 have HT4:Hid (Touch (inG p) _ wm4):=hid (HT3.out.trans hT)
 clear hG hT
 go_wp2_with fail
 refine(HC4.out p _ _ HG4.out).mono ?_
 rintro e wm5 ⟨rfl,hG,hT⟩
 have HG5:=hid hG
 have HT5:Hid (Touch (inG p) _ wm5):=hid (HT4.out.trans hT)
 clear hG hT
 go_wp2_with fail
 go_ret
 exact⟨rfl,HG5.out.gF rfl (by dsimp only;omega),HT5.out⟩
set_option maxHeartbeats 1000000 in
theorem ut{k f:Int}{b:Bool}(h0:0≤k)(hk:k<(c.N:Int))(hm:c.May)(C1:Run c 40 [] zs d1 zs1 (.tuple #[.int .i64 k,.int .i64 f]))(C2:Run c 12 [] zs1 d2 zs2 (.int .i64 1))(C3:Run c 15 [.int .i64 (k+1)] zs2 d3 zs3 (.bool true))(C4:Run c 41 [.int .i64 (k+1),.int .i64 f] zs3 d4 zs4 (.bool true))(C5:Run c 43 [.int .i64 (k+1),.int .i64 0] zs4 d5 zs5 (.bool b)):Run c 11 [] zs (d1+d2+d3+d4+d5) zs5 (.bool b):=fun p m w hG=>by
 have hfc:=cfield0 (c.N:Int) (c.W:Int) (c.R:Int) (c.K:Int)
 have hmn:=hm.n
 have hkn:¬(c.N:Int)≤k:=by omega
 have hw1:IntKind.i64.wrap (k+1)=k+1:=IntWalk.i64_in _ (by omega)
 clear hm hmn
 have HG:=hid hG
 have HC1:=hid C1
 have HC2:=hid C2
 have HC3:=hid C3
 have HC4:=hid C4
 have HC5:=hid C5
 clear hG C1 C2 C3 C4 C5
 go_enter Tryz.func11,Tryz.ntmps11
 have HT0:Hid (Touch (inG p) w w):=hid (Touch.refl _ _)
 go_wp2_with fail
 refine(HC1.out p _ _ HG.out).mono ?_
 rintro e wm1 ⟨rfl,hG,hT⟩
 have HG1:=hid hG
 have HT1:Hid (Touch (inG p) _ wm1):=hid (HT0.out.trans hT)
 clear hG hT
 go_wp2_with fail
 refine(HC2.out p _ _ HG1.out).mono ?_
 rintro e wm2 ⟨rfl,hG,hT⟩
 have HG2:=hid hG
 have HT2:Hid (Touch (inG p) _ wm2):=hid (HT1.out.trans hT)
 clear hG hT
 go_wp2_with fail
 refine(dK p c _ _ HG2.out).mono ?_
 rintro e wm3 ⟨rfl,hb⟩
 have HG3:=hid (HG2.out.later hb)
 have HT3:Hid (Touch (inG p) _ wm3):=hid (HT2.out.trans (Touch.of_below hb))
 clear hb
 go_wp2_with fail
 refine(HC3.out p _ _ HG3.out).mono ?_
 rintro e wm4 ⟨rfl,hG,hT⟩
 have HG4:=hid hG
 have HT4:Hid (Touch (inG p) _ wm4):=hid (HT3.out.trans hT)
 clear hG hT
 go_wp2_with fail
 refine(HC4.out p _ _ HG4.out).mono ?_
 rintro e wm5 ⟨rfl,hG,hT⟩
 have HG5:=hid hG
 have HT5:Hid (Touch (inG p) _ wm5):=hid (HT4.out.trans hT)
 clear hG hT
 go_wp2_with fail
 refine(HC5.out p _ _ HG5.out).mono ?_
 rintro e wm6 ⟨rfl,hG,hT⟩
 have HG6:=hid hG
 have HT6:Hid (Touch (inG p) _ wm6):=hid (HT5.out.trans hT)
 clear hG hT
 go_wp2_with fail
 go_ret
 exact⟨rfl,HG6.out.gF rfl (by dsimp only;omega),HT6.out⟩
set_option maxHeartbeats 1000000 in
theorem AZ{k f:Int}{b b2:Bool}(h0:0≤k)(hk:k<(c.N:Int))(hm:c.May)(C1:Run c 40 [] zs d1 zs1 (.tuple #[.int .i64 k,.int .i64 f]))(C2:Run c 12 [] zs1 d2 zs2 (.int .i64 1))(C3:Run c 15 [.int .i64 (k+1)] zs2 d3 zs3 (.bool true))(C4:Run c 41 [.int .i64 (k+1),.int .i64 f] zs3 d4 zs4 (.bool false))(C5:Run c 42 [.int .i64 (k+1),.int .i64 f] zs4 d5 zs5 (.bool false))(C6:Run c 44 [.int .i64 (k+1)] zs5 d6 zs6 (.bool b2))(C7:Run c 43 [.int .i64 (k+1),.int .i64 0] zs6 d7 zs7 (.bool b)):Run c 11 [] zs (d1+d2+d3+d4+d5+d6+d7) zs7 (.bool b):=fun p m w hG=>by
 have hfc:=cfield0 (c.N:Int) (c.W:Int) (c.R:Int) (c.K:Int)
 have hmn:=hm.n
 have hkn:¬(c.N:Int)≤k:=by omega
 have hw1:IntKind.i64.wrap (k+1)=k+1:=IntWalk.i64_in _ (by omega)
 clear hm hmn
 have HG:=hid hG
 have HC1:=hid C1
 have HC2:=hid C2
 have HC3:=hid C3
 have HC4:=hid C4
 have HC5:=hid C5
 have HC6:=hid C6
 have HC7:=hid C7
 clear hG C1 C2 C3 C4 C5 C6 C7
 go_enter Tryz.func11,Tryz.ntmps11
 have HT0:Hid (Touch (inG p) w w):=hid (Touch.refl _ _)
 go_wp2_with fail
 refine(HC1.out p _ _ HG.out).mono ?_
 rintro e wm1 ⟨rfl,hG,hT⟩
 have HG1:=hid hG
 have HT1:Hid (Touch (inG p) _ wm1):=hid (HT0.out.trans hT)
 clear hG hT
 go_wp2_with fail
 refine(HC2.out p _ _ HG1.out).mono ?_
 rintro e wm2 ⟨rfl,hG,hT⟩
 have HG2:=hid hG
 have HT2:Hid (Touch (inG p) _ wm2):=hid (HT1.out.trans hT)
 clear hG hT
 go_wp2_with fail
 refine(dK p c _ _ HG2.out).mono ?_
 rintro e wm3 ⟨rfl,hb⟩
 have HG3:=hid (HG2.out.later hb)
 have HT3:Hid (Touch (inG p) _ wm3):=hid (HT2.out.trans (Touch.of_below hb))
 clear hb
 go_wp2_with fail
 refine(HC3.out p _ _ HG3.out).mono ?_
 rintro e wm4 ⟨rfl,hG,hT⟩
 have HG4:=hid hG
 have HT4:Hid (Touch (inG p) _ wm4):=hid (HT3.out.trans hT)
 clear hG hT
 go_wp2_with fail
 refine(HC4.out p _ _ HG4.out).mono ?_
 rintro e wm5 ⟨rfl,hG,hT⟩
 have HG5:=hid hG
 have HT5:Hid (Touch (inG p) _ wm5):=hid (HT4.out.trans hT)
 clear hG hT
 go_wp2_with fail
 refine(HC5.out p _ _ HG5.out).mono ?_
 rintro e wm6 ⟨rfl,hG,hT⟩
 have HG6:=hid hG
 have HT6:Hid (Touch (inG p) _ wm6):=hid (HT5.out.trans hT)
 clear hG hT
 go_wp2_with fail
 refine(HC6.out p _ _ HG6.out).mono ?_
 rintro e wm7 ⟨rfl,hG,hT⟩
 have HG7:=hid hG
 have HT7:Hid (Touch (inG p) _ wm7):=hid (HT6.out.trans hT)
 clear hG hT
 go_wp2_with fail
 refine(HC7.out p _ _ HG7.out).mono ?_
 rintro e wm8 ⟨rfl,hG,hT⟩
 have HG8:=hid hG
 have HT8:Hid (Touch (inG p) _ wm8):=hid (HT7.out.trans hT)
 clear hG hT
 go_wp2_with fail
 go_ret
 exact⟨rfl,HG8.out.gF rfl (by dsimp only;omega),HT8.out⟩
set_option maxHeartbeats 1000000 in
theorem AY{k f:Int}{b:Bool}(hf0:0≤f)(hf1:f≤4294967295)(h0:0≤k)(hk:k<(c.N:Int))(hm:c.May)(C1:Run c 40 [] zs d1 zs1 (.tuple #[.int .i64 k,.int .i64 f]))(C2:Run c 12 [] zs1 d2 zs2 (.int .i64 1))(C3:Run c 15 [.int .i64 (k+1)] zs2 d3 zs3 (.bool true))(C4:Run c 41 [.int .i64 (k+1),.int .i64 f] zs3 d4 zs4 (.bool false))(C5:Run c 42 [.int .i64 (k+1),.int .i64 f] zs4 d5 zs5 (.bool true))(C6:Run c 43 [.int .i64 k,.int .i64 (f+1)] zs5 d6 zs6 (.bool b)):Run c 11 [] zs (d1+d2+d3+d4+d5+d6) zs6 (.bool b):=fun p m w hG=>by
 have hfc:=cfield0 (c.N:Int) (c.W:Int) (c.R:Int) (c.K:Int)
 have hmn:=hm.n
 have hkn:¬(c.N:Int)≤k:=by omega
 have hw1:IntKind.i64.wrap (k+1)=k+1:=IntWalk.i64_in _ (by omega)
 have hw2:IntKind.i64.wrap (f+1)=f+1:=IntWalk.i64_in _ (by omega)
 clear hm hmn hf0 hf1
 have HG:=hid hG
 have HC1:=hid C1
 have HC2:=hid C2
 have HC3:=hid C3
 have HC4:=hid C4
 have HC5:=hid C5
 have HC6:=hid C6
 clear hG C1 C2 C3 C4 C5 C6
 go_enter Tryz.func11,Tryz.ntmps11
 have HT0:Hid (Touch (inG p) w w):=hid (Touch.refl _ _)
 go_wp2_with fail
 refine(HC1.out p _ _ HG.out).mono ?_
 rintro e wm1 ⟨rfl,hG,hT⟩
 have HG1:=hid hG
 have HT1:Hid (Touch (inG p) _ wm1):=hid (HT0.out.trans hT)
 clear hG hT
 go_wp2_with fail
 refine(HC2.out p _ _ HG1.out).mono ?_
 rintro e wm2 ⟨rfl,hG,hT⟩
 have HG2:=hid hG
 have HT2:Hid (Touch (inG p) _ wm2):=hid (HT1.out.trans hT)
 clear hG hT
 go_wp2_with fail
 refine(dK p c _ _ HG2.out).mono ?_
 rintro e wm3 ⟨rfl,hb⟩
 have HG3:=hid (HG2.out.later hb)
 have HT3:Hid (Touch (inG p) _ wm3):=hid (HT2.out.trans (Touch.of_below hb))
 clear hb
 go_wp2_with fail
 refine(HC3.out p _ _ HG3.out).mono ?_
 rintro e wm4 ⟨rfl,hG,hT⟩
 have HG4:=hid hG
 have HT4:Hid (Touch (inG p) _ wm4):=hid (HT3.out.trans hT)
 clear hG hT
 go_wp2_with fail
 refine(HC4.out p _ _ HG4.out).mono ?_
 rintro e wm5 ⟨rfl,hG,hT⟩
 have HG5:=hid hG
 have HT5:Hid (Touch (inG p) _ wm5):=hid (HT4.out.trans hT)
 clear hG hT
 go_wp2_with fail
 refine(HC5.out p _ _ HG5.out).mono ?_
 rintro e wm6 ⟨rfl,hG,hT⟩
 have HG6:=hid hG
 have HT6:Hid (Touch (inG p) _ wm6):=hid (HT5.out.trans hT)
 clear hG hT
 go_wp2_with fail
 refine(HC6.out p _ _ HG6.out).mono ?_
 rintro e wm7 ⟨rfl,hG,hT⟩
 have HG7:=hid hG
 have HT7:Hid (Touch (inG p) _ wm7):=hid (HT6.out.trans hT)
 clear hG hT
 go_wp2_with fail
 go_ret
 exact⟨rfl,HG7.out.gF rfl (by dsimp only;omega),HT7.out⟩
end
theorem zt(k c n s d g o:Int)(w:World):(Instr.field 82 (.agg #[.int .i64 k,.int .i64 c,.int .i64 n,.int .i64 s,.int .i64 d,.int .i64 g,.int .i64 o]) 3).run Tryz.prog w=.ok (.int .i64 s) w:=by kernel_rfl
theorem wX(x:Int)(h0:0≤x)(h1:x≤4294967295):∃k cc n sh dd gg o:Int,sh=uS x∧∀w:World,Calls Tryz.prog 113 #[.int .u32 x] w fun e w'=>e=.returned (.agg #[.int .i64 k,.int .i64 cc,.int .i64 n,.int .i64 sh,.int .i64 dd,.int .i64 gg,.int .i64 o])∧Below w.heap.size w w':=⟨_,_,_,_,_,_,_,rfl,fun w=>df x w h0 h1⟩
theorem Lx(w:World):Calls Tryz.prog 167 #[] w fun e w'=>e=.returned (.int .u32 16)∧Below w.heap.size w w':=by
 have HP1:=hid (fun w:World=>ek 1 0 0 1 0 0 0 w (by decide))
 have HP2:=hid (fun w:World=>ek 1 0 0 0 0 0 0 w (by decide))
 rw[show cz 1 0 0 1 0 0 0=17 from rfl] at HP1
 rw[show cz 1 0 0 0 0 0 0=1 from rfl] at HP2
 have hx:bits .xor .u32 17 1=16:=by decide
 go_enter Tryz.func167,Tryz.ntmps167
 go_wp2_with fail
 refine(HP1.out _).mono ?_
 rintro e w1 ⟨rfl,hb⟩
 have HB1:=hid hb
 clear hb
 go_wp2_with fail
 refine(HP2.out _).mono ?_
 rintro e w2 ⟨rfl,hb⟩
 have HB2:=hid (below_step HB1.out hb)
 clear hb
 go_wp2_with fail
 go_ret
 exact⟨rfl,HB2.out⟩
section
variable {c:Cf} {zs zs1 zs2 zs3 zs4 zs5 zs6 zs7 zs8:List Int} {d1 d2 d3 d4 d5 d6 d7 d8:Nat}
set_option maxHeartbeats 1000000 in
theorem vv{h:Nat}{x P:Int}(hh:h<c.N)(hm:c.May)(hx:nth zs (ae c h 0)=x)(x0:0≤x)(x1:x≤4294967295)(he:uS x=P)(C1:Run c 38 [] zs d1 zs1 (.int .i64 P)):Run c 106 [.int .i64 ((h:Int)+1)] zs (1+d1) zs1 (.tuple #[]):=fun p m w hG=>by
 have hw1:IntKind.i64.wrap ((h:Int)+1-1)=(h:Int):=by rw[IntWalk.i64_in _ (by have:=hm.n;omega)];omega
 have hw2:wrap64 (h:Int)=(h:Int):=IntWalk.wrap64_in _ (by have:=hm.n;omega)
 obtain⟨k,cc,n,sh,dd,gg,o,hsh,hU⟩:=wX x x0 x1
 have hfd:=zt k cc n sh dd gg o
 rw[←hsh] at he
 have HH:=hid hh
 have HV:=hid (show 0<c.W by have:=hm.w;omega)
 have HV4:=hid (show 4<c.W by have:=hm.w;omega)
 have HX:=hid hx
 have HU:=hid hU
 have heb:(sh==P)=true:=by rw[beq_iff_eq];exact he
 clear he hh hm hx x0 x1 hsh hU
 have HG:=hid hG
 have HC1:=hid C1
 clear hG C1
 go_enter Tryz.func106,Tryz.ntmps106
 have HT0:Hid (Touch (inG p) w w):=hid (Touch.refl _ _)
 go_wp2_with fail
 refine(eF p c _ h 0 _ _ x _ HG.out HH.out HV.out rfl rfl HX.out).mono ?_
 rintro e wm1 ⟨rfl,hG,hT⟩
 have HG1:=hid hG
 have HT1:Hid (Touch (inG p) _ wm1):=hid (HT0.out.trans hT)
 clear hG hT
 go_wp2_with fail
 refine(HU.out _).mono ?_
 rintro e wm2 ⟨rfl,hb⟩
 have HG2:=hid (HG1.out.later hb)
 have HT2:Hid (Touch (inG p) _ wm2):=hid (HT1.out.trans (Touch.of_below hb))
 clear hb
 go_wp2_with fail
 refine(HC1.out p _ _ HG2.out).mono ?_
 rintro e wm3 ⟨rfl,hG,hT⟩
 have HG3:=hid hG
 have HT3:Hid (Touch (inG p) _ wm3):=hid (HT2.out.trans hT)
 clear hG hT
 go_wp2_with fail
 go_end0
 exact⟨rfl,HG3.out.gF rfl (by dsimp only[St.got,St.set]<;>omega),HT3.out⟩
set_option maxHeartbeats 1000000 in
theorem xA{h:Nat}{x P y:Int}(hh:h<c.N)(hm:c.May)(hx:nth zs (ae c h 0)=x)(x0:0≤x)(x1:x≤4294967295)(he:uS x≠P)(hy:bits .xor .u32 x 16=y)(y0:0≤y)(y1:y≤4294967295)(C1:Run c 38 [] zs d1 zs1 (.int .i64 P)):Run c 106 [.int .i64 ((h:Int)+1)] zs (1+d1+1+1) ((zs1.set (ae c h 0) y).set (ae c h 4) 0) (.tuple #[]):=fun p m w hG=>by
 have hw1:IntKind.i64.wrap ((h:Int)+1-1)=(h:Int):=by rw[IntWalk.i64_in _ (by have:=hm.n;omega)];omega
 have hw2:wrap64 (h:Int)=(h:Int):=IntWalk.wrap64_in _ (by have:=hm.n;omega)
 obtain⟨k,cc,n,sh,dd,gg,o,hsh,hU⟩:=wX x x0 x1
 have hfd:=zt k cc n sh dd gg o
 rw[←hsh] at he
 have HH:=hid hh
 have HV:=hid (show 0<c.W by have:=hm.w;omega)
 have HV4:=hid (show 4<c.W by have:=hm.w;omega)
 have HX:=hid hx
 have HU:=hid hU
 have heb:(sh==P)=false:=by rw[beq_eq_false_iff_ne];exact he
 have HY:=hid (And.intro y0 y1)
 clear he hh hm hx x0 x1 y0 y1 hsh hU
 have HG:=hid hG
 have HC1:=hid C1
 clear hG C1
 go_enter Tryz.func106,Tryz.ntmps106
 have HT0:Hid (Touch (inG p) w w):=hid (Touch.refl _ _)
 go_wp2_with fail
 refine(eF p c _ h 0 _ _ x _ HG.out HH.out HV.out rfl rfl HX.out).mono ?_
 rintro e wm1 ⟨rfl,hG,hT⟩
 have HG1:=hid hG
 have HT1:Hid (Touch (inG p) _ wm1):=hid (HT0.out.trans hT)
 clear hG hT
 go_wp2_with fail
 refine(HU.out _).mono ?_
 rintro e wm2 ⟨rfl,hb⟩
 have HG2:=hid (HG1.out.later hb)
 have HT2:Hid (Touch (inG p) _ wm2):=hid (HT1.out.trans (Touch.of_below hb))
 clear hb
 go_wp2_with fail
 refine(HC1.out p _ _ HG2.out).mono ?_
 rintro e wm3 ⟨rfl,hG,hT⟩
 have HG3:=hid hG
 have HT3:Hid (Touch (inG p) _ wm3):=hid (HT2.out.trans hT)
 clear hG hT
 go_wp2_with fail
 refine(Lx _).mono ?_
 rintro e wm4 ⟨rfl,hb⟩
 have HG4:=hid (HG3.out.later hb)
 have HT4:Hid (Touch (inG p) _ wm4):=hid (HT3.out.trans (Touch.of_below hb))
 clear hb
 go_wp2_with fail
 refine(aG p c _ h 0 _ _ y _ HG4.out HH.out HV.out rfl rfl HY.out.1 HY.out.2).mono ?_
 rintro e wm5 ⟨rfl,hG,hT⟩
 have HG5:=hid hG
 have HT5:Hid (Touch (inG p) _ wm5):=hid (HT4.out.trans hT)
 clear hG hT
 go_wp2_with fail
 refine(aG p c _ h 4 _ _ 0 _ HG5.out HH.out HV4.out rfl rfl (by omega) (by omega)).mono ?_
 rintro e wm6 ⟨rfl,hG,hT⟩
 have HG6:=hid hG
 have HT6:Hid (Touch (inG p) _ wm6):=hid (HT5.out.trans hT)
 clear hG hT
 go_wp2_with fail
 go_end0
 exact⟨rfl,HG6.out.gF rfl (by dsimp only[St.got,St.set]<;>omega),HT6.out⟩
set_option maxHeartbeats 1000000 in
theorem Fv(h14:nth zs 14=0):Run c 46 [] zs (1) zs (.bool false):=fun p m w hG=>by
 have HR14:=hid h14
 clear h14
 have HG:=hid hG
 clear hG
 go_enter Tryz.func46,Tryz.ntmps46
 have HT0:Hid (Touch (inG p) w w):=hid (Touch.refl _ _)
 go_wp2_with fail
 refine(gQ p c _ 14 _ _ _ HG.out (by omega) rfl HR14.out).mono ?_
 rintro e wm1 ⟨rfl,hG,hT⟩
 have HG1:=hid hG
 have HT1:Hid (Touch (inG p) _ wm1):=hid (HT0.out.trans hT)
 clear hG hT
 go_wp2_with fail
 go_ret
 exact⟨rfl,HG1.out.gF rfl (by dsimp only[St.got,St.set]<;>omega),HT1.out⟩
set_option maxHeartbeats 1000000 in
theorem tC{r i n n2 e:Int}(h14:nth zs 14=r)(hr:r≠0)(h15:nth zs 15=i)(hi:n≤i)(C1:Run c 99 [.int .i64 r] zs d1 zs1 (.tuple #[.int .i64 n,.int .i64 n2,.int .i64 e])):Run c 46 [] zs (1+1+d1+1) (zs1.set 14 0) (.bool true):=fun p m w hG=>by
 have HR14:=hid h14
 have hrb:(r==0)=false:=by rw[beq_eq_false_iff_ne];exact hr
 clear h14 hr
 have HR15:=hid h15
 clear h15
 have HG:=hid hG
 have HC1:=hid C1
 clear hG C1
 go_enter Tryz.func46,Tryz.ntmps46
 have HT0:Hid (Touch (inG p) w w):=hid (Touch.refl _ _)
 go_wp2_with fail
 refine(gQ p c _ 14 _ _ _ HG.out (by omega) rfl HR14.out).mono ?_
 rintro e wm1 ⟨rfl,hG,hT⟩
 have HG1:=hid hG
 have HT1:Hid (Touch (inG p) _ wm1):=hid (HT0.out.trans hT)
 clear hG hT
 go_wp2_with fail
 refine(gQ p c _ 15 _ _ _ HG1.out (by omega) rfl HR15.out).mono ?_
 rintro e wm2 ⟨rfl,hG,hT⟩
 have HG2:=hid hG
 have HT2:Hid (Touch (inG p) _ wm2):=hid (HT1.out.trans hT)
 clear hG hT
 go_wp2_with fail
 refine(HC1.out p _ _ HG2.out).mono ?_
 rintro e wm3 ⟨rfl,hG,hT⟩
 have HG3:=hid hG
 have HT3:Hid (Touch (inG p) _ wm3):=hid (HT2.out.trans hT)
 clear hG hT
 go_wp2_with fail
 refine(aL p c _ 14 _ 0 _ HG3.out (by omega) rfl (by omega) (by omega)).mono ?_
 rintro e wm4 ⟨rfl,hG,hT⟩
 have HG4:=hid hG
 have HT4:Hid (Touch (inG p) _ wm4):=hid (HT3.out.trans hT)
 clear hG hT
 go_wp2_with fail
 go_ret
 exact⟨rfl,HG4.out.gF rfl (by dsimp only[St.got,St.set]<;>omega),HT4.out⟩
set_option maxHeartbeats 1000000 in
theorem Oz{r i n n2 e x e2:Int}{b:Bool}(h14:nth zs 14=r)(hr:r≠0)(h15:nth zs 15=i)(i0:0≤i)(i1:i<4294967295)(hi:i<n)(C1:Run c 99 [.int .i64 r] zs d1 zs1 (.tuple #[.int .i64 n,.int .i64 n2,.int .i64 e]))(C2:Run c 55 [.int .i64 r,.int .i64 i] zs1 d2 zs2 (.tuple #[.int .i64 x,.int .i64 e2]))(C3:Run c 88 [.int .i64 x] zs2 d3 zs3 (.bool b)):Run c 46 [] zs (1+1+d1+d2+d3+1) (zs3.set 15 (i+1)) (.bool true):=fun p m w hG=>by
 have hni:¬n≤i:=by omega
 have hw2:IntKind.i64.wrap (i+1)=i+1:=IntWalk.i64_in _ (by omega)
 have HR14:=hid h14
 have hrb:(r==0)=false:=by rw[beq_eq_false_iff_ne];exact hr
 clear h14 hr
 have HR15:=hid h15
 clear h15
 have HG:=hid hG
 have HC1:=hid C1
 have HC2:=hid C2
 have HC3:=hid C3
 clear hG C1 C2 C3
 go_enter Tryz.func46,Tryz.ntmps46
 have HT0:Hid (Touch (inG p) w w):=hid (Touch.refl _ _)
 go_wp2_with fail
 refine(gQ p c _ 14 _ _ _ HG.out (by omega) rfl HR14.out).mono ?_
 rintro e wm1 ⟨rfl,hG,hT⟩
 have HG1:=hid hG
 have HT1:Hid (Touch (inG p) _ wm1):=hid (HT0.out.trans hT)
 clear hG hT
 go_wp2_with fail
 refine(gQ p c _ 15 _ _ _ HG1.out (by omega) rfl HR15.out).mono ?_
 rintro e wm2 ⟨rfl,hG,hT⟩
 have HG2:=hid hG
 have HT2:Hid (Touch (inG p) _ wm2):=hid (HT1.out.trans hT)
 clear hG hT
 go_wp2_with fail
 refine(HC1.out p _ _ HG2.out).mono ?_
 rintro e wm3 ⟨rfl,hG,hT⟩
 have HG3:=hid hG
 have HT3:Hid (Touch (inG p) _ wm3):=hid (HT2.out.trans hT)
 clear hG hT
 go_wp2_with fail
 refine(HC2.out p _ _ HG3.out).mono ?_
 rintro e wm4 ⟨rfl,hG,hT⟩
 have HG4:=hid hG
 have HT4:Hid (Touch (inG p) _ wm4):=hid (HT3.out.trans hT)
 clear hG hT
 go_wp2_with fail
 refine(HC3.out p _ _ HG4.out).mono ?_
 rintro e wm5 ⟨rfl,hG,hT⟩
 have HG5:=hid hG
 have HT5:Hid (Touch (inG p) _ wm5):=hid (HT4.out.trans hT)
 clear hG hT
 go_wp2_with fail
 refine(aL p c _ 15 _ (i+1) _ HG5.out (by omega) rfl (by omega) (by omega)).mono ?_
 rintro e wm6 ⟨rfl,hG,hT⟩
 have HG6:=hid hG
 have HT6:Hid (Touch (inG p) _ wm6):=hid (HT5.out.trans hT)
 clear hG hT
 go_wp2_with fail
 go_ret
 exact⟨rfl,HG6.out.gF rfl (by dsimp only[St.got,St.set]<;>omega),HT6.out⟩
set_option maxHeartbeats 1000000 in
theorem zQ{b:Int}(C1:Run c 105 [] zs d1 zs1 (.tuple #[.int .i64 b,.bool false])):Run c 47 [] zs (d1) zs1 (.bool false):=fun p m w hG=>by
 have HG:=hid hG
 have HC1:=hid C1
 clear hG C1
 go_enter Tryz.func47,Tryz.ntmps47
 have HT0:Hid (Touch (inG p) w w):=hid (Touch.refl _ _)
 go_wp2_with fail
 refine(HC1.out p _ _ HG.out).mono ?_
 rintro e wm1 ⟨rfl,hG,hT⟩
 have HG1:=hid hG
 have HT1:Hid (Touch (inG p) _ wm1):=hid (HT0.out.trans hT)
 clear hG hT
 go_wp2_with fail
 go_ret
 exact⟨rfl,HG1.out,HT1.out⟩
set_option maxHeartbeats 1000000 in
theorem Jj{b:Nat}(hb:b<4294967295)(C1:Run c 105 [] zs d1 zs1 (.tuple #[.int .i64 (b:Int),.bool true])):Run c 47 [] zs (d1+1+1) ((zs1.set 14 ((b:Int)+1)).set 15 0) (.bool true):=fun p m w hG=>by
 have hw1:IntKind.i64.wrap ((b:Int)+1)=(b:Int)+1:=IntWalk.i64_in _ (by omega)
 have HG:=hid hG
 have HC1:=hid C1
 clear hG C1
 go_enter Tryz.func47,Tryz.ntmps47
 have HT0:Hid (Touch (inG p) w w):=hid (Touch.refl _ _)
 go_wp2_with fail
 refine(HC1.out p _ _ HG.out).mono ?_
 rintro e wm1 ⟨rfl,hG,hT⟩
 have HG1:=hid hG
 have HT1:Hid (Touch (inG p) _ wm1):=hid (HT0.out.trans hT)
 clear hG hT
 go_wp2_with fail
 refine(aL p c _ 14 _ ((b:Int)+1) _ HG1.out (by omega) rfl (by omega) (by omega)).mono ?_
 rintro e wm2 ⟨rfl,hG,hT⟩
 have HG2:=hid hG
 have HT2:Hid (Touch (inG p) _ wm2):=hid (HT1.out.trans hT)
 clear hG hT
 go_wp2_with fail
 refine(aL p c _ 15 _ 0 _ HG2.out (by omega) rfl (by omega) (by omega)).mono ?_
 rintro e wm3 ⟨rfl,hG,hT⟩
 have HG3:=hid hG
 have HT3:Hid (Touch (inG p) _ wm3):=hid (HT2.out.trans hT)
 clear hG hT
 go_wp2_with fail
 go_ret
 exact⟨rfl,HG3.out.gF rfl (by dsimp only[St.got,St.set]<;>omega),HT3.out⟩
set_option maxHeartbeats 1000000 in
theorem Co{k f:Int}(hk:(c.N:Int)≤k)(C1:Run c 40 [] zs d1 zs1 (.tuple #[.int .i64 k,.int .i64 f])):Run c 48 [] zs (d1) zs1 (.bool false):=fun p m w hG=>by
 have hfc:=cfield0 (c.N:Int) (c.W:Int) (c.R:Int) (c.K:Int)
 have hkn:(c.N:Int)≤k:=hk
 clear hk
 have HG:=hid hG
 have HC1:=hid C1
 clear hG C1
 go_enter Tryz.func48,Tryz.ntmps48
 have HT0:Hid (Touch (inG p) w w):=hid (Touch.refl _ _)
 go_wp2_with fail
 refine(HC1.out p _ _ HG.out).mono ?_
 rintro e wm1 ⟨rfl,hG,hT⟩
 have HG1:=hid hG
 have HT1:Hid (Touch (inG p) _ wm1):=hid (HT0.out.trans hT)
 clear hG hT
 go_wp2_with fail
 refine(dK p c _ _ HG1.out).mono ?_
 rintro e wm2 ⟨rfl,hb⟩
 have HG2:=hid (HG1.out.later hb)
 have HT2:Hid (Touch (inG p) _ wm2):=hid (HT1.out.trans (Touch.of_below hb))
 clear hb
 go_wp2_with fail
 go_ret
 exact⟨rfl,HG2.out,HT2.out⟩
set_option maxHeartbeats 1000000 in
theorem zS{k f:Int}{b:Bool}(h0:0≤k)(hk:k<(c.N:Int))(hm:c.May)(C1:Run c 40 [] zs d1 zs1 (.tuple #[.int .i64 k,.int .i64 f]))(C2:Run c 15 [.int .i64 (k+1)] zs1 d2 zs2 (.bool false))(C3:Run c 43 [.int .i64 (k+1),.int .i64 f] zs2 d3 zs3 (.bool b)):Run c 48 [] zs (d1+d2+d3) zs3 (.bool b):=fun p m w hG=>by
 have hfc:=cfield0 (c.N:Int) (c.W:Int) (c.R:Int) (c.K:Int)
 have hmn:=hm.n
 have hkn:¬(c.N:Int)≤k:=by omega
 have hw1:IntKind.i64.wrap (k+1)=k+1:=IntWalk.i64_in _ (by omega)
 clear hm hmn
 have HG:=hid hG
 have HC1:=hid C1
 have HC2:=hid C2
 have HC3:=hid C3
 clear hG C1 C2 C3
 go_enter Tryz.func48,Tryz.ntmps48
 have HT0:Hid (Touch (inG p) w w):=hid (Touch.refl _ _)
 go_wp2_with fail
 refine(HC1.out p _ _ HG.out).mono ?_
 rintro e wm1 ⟨rfl,hG,hT⟩
 have HG1:=hid hG
 have HT1:Hid (Touch (inG p) _ wm1):=hid (HT0.out.trans hT)
 clear hG hT
 go_wp2_with fail
 refine(dK p c _ _ HG1.out).mono ?_
 rintro e wm2 ⟨rfl,hb⟩
 have HG2:=hid (HG1.out.later hb)
 have HT2:Hid (Touch (inG p) _ wm2):=hid (HT1.out.trans (Touch.of_below hb))
 clear hb
 go_wp2_with fail
 refine(HC2.out p _ _ HG2.out).mono ?_
 rintro e wm3 ⟨rfl,hG,hT⟩
 have HG3:=hid hG
 have HT3:Hid (Touch (inG p) _ wm3):=hid (HT2.out.trans hT)
 clear hG hT
 go_wp2_with fail
 refine(HC3.out p _ _ HG3.out).mono ?_
 rintro e wm4 ⟨rfl,hG,hT⟩
 have HG4:=hid hG
 have HT4:Hid (Touch (inG p) _ wm4):=hid (HT3.out.trans hT)
 clear hG hT
 go_wp2_with fail
 go_ret
 exact⟨rfl,HG4.out.gF rfl (by dsimp only;omega),HT4.out⟩
set_option maxHeartbeats 1000000 in
theorem zR{k f:Int}{b:Bool}(h0:0≤k)(hk:k<(c.N:Int))(hm:c.May)(C1:Run c 40 [] zs d1 zs1 (.tuple #[.int .i64 k,.int .i64 f]))(C2:Run c 15 [.int .i64 (k+1)] zs1 d2 zs2 (.bool true))(C3:Run c 16 [.int .i64 (k+1)] zs2 d3 zs3 (.bool true))(C4:Run c 43 [.int .i64 (k+1),.int .i64 f] zs3 d4 zs4 (.bool b)):Run c 48 [] zs (d1+d2+d3+d4) zs4 (.bool b):=fun p m w hG=>by
 have hfc:=cfield0 (c.N:Int) (c.W:Int) (c.R:Int) (c.K:Int)
 have hmn:=hm.n
 have hkn:¬(c.N:Int)≤k:=by omega
 have hw1:IntKind.i64.wrap (k+1)=k+1:=IntWalk.i64_in _ (by omega)
 clear hm hmn
 have HG:=hid hG
 have HC1:=hid C1
 have HC2:=hid C2
 have HC3:=hid C3
 have HC4:=hid C4
 clear hG C1 C2 C3 C4
 go_enter Tryz.func48,Tryz.ntmps48
 have HT0:Hid (Touch (inG p) w w):=hid (Touch.refl _ _)
 go_wp2_with fail
 refine(HC1.out p _ _ HG.out).mono ?_
 rintro e wm1 ⟨rfl,hG,hT⟩
 have HG1:=hid hG
 have HT1:Hid (Touch (inG p) _ wm1):=hid (HT0.out.trans hT)
 clear hG hT
 go_wp2_with fail
 refine(dK p c _ _ HG1.out).mono ?_
 rintro e wm2 ⟨rfl,hb⟩
 have HG2:=hid (HG1.out.later hb)
 have HT2:Hid (Touch (inG p) _ wm2):=hid (HT1.out.trans (Touch.of_below hb))
 clear hb
 go_wp2_with fail
 refine(HC2.out p _ _ HG2.out).mono ?_
 rintro e wm3 ⟨rfl,hG,hT⟩
 have HG3:=hid hG
 have HT3:Hid (Touch (inG p) _ wm3):=hid (HT2.out.trans hT)
 clear hG hT
 go_wp2_with fail
 refine(HC3.out p _ _ HG3.out).mono ?_
 rintro e wm4 ⟨rfl,hG,hT⟩
 have HG4:=hid hG
 have HT4:Hid (Touch (inG p) _ wm4):=hid (HT3.out.trans hT)
 clear hG hT
 go_wp2_with fail
 refine(HC4.out p _ _ HG4.out).mono ?_
 rintro e wm5 ⟨rfl,hG,hT⟩
 have HG5:=hid hG
 have HT5:Hid (Touch (inG p) _ wm5):=hid (HT4.out.trans hT)
 clear hG hT
 go_wp2_with fail
 go_ret
 exact⟨rfl,HG5.out.gF rfl (by dsimp only;omega),HT5.out⟩
set_option maxHeartbeats 1000000 in
theorem Cq{k f n s:Int}{b:Bool}(h0:0≤k)(hk:k<(c.N:Int))(hm:c.May)(hn:n≤s)(C1:Run c 40 [] zs d1 zs1 (.tuple #[.int .i64 k,.int .i64 f]))(C2:Run c 15 [.int .i64 (k+1)] zs1 d2 zs2 (.bool true))(C3:Run c 16 [.int .i64 (k+1)] zs2 d3 zs3 (.bool false))(C4:Run c 106 [.int .i64 (k+1)] zs3 d4 zs4 (.tuple #[]))(C5:Run c 60 [.int .i64 (k+1)] zs4 d5 zs5 (.int .i64 n))(C6:Run c 107 [.int .i64 (k+1)] zs5 d6 zs6 (.int .i64 s))(C7:Run c 43 [.int .i64 (k+1),.int .i64 f] zs6 d7 zs7 (.bool b)):Run c 48 [] zs (d1+d2+d3+d4+d5+d6+d7) zs7 (.bool b):=fun p m w hG=>by
 have hfc:=cfield0 (c.N:Int) (c.W:Int) (c.R:Int) (c.K:Int)
 have hmn:=hm.n
 have hkn:¬(c.N:Int)≤k:=by omega
 have hw1:IntKind.i64.wrap (k+1)=k+1:=IntWalk.i64_in _ (by omega)
 clear hm hmn
 have hns:¬s<n:=by omega
 have HG:=hid hG
 have HC1:=hid C1
 have HC2:=hid C2
 have HC3:=hid C3
 have HC4:=hid C4
 have HC5:=hid C5
 have HC6:=hid C6
 have HC7:=hid C7
 clear hG C1 C2 C3 C4 C5 C6 C7
 go_enter Tryz.func48,Tryz.ntmps48
 have HT0:Hid (Touch (inG p) w w):=hid (Touch.refl _ _)
 go_wp2_with fail
 refine(HC1.out p _ _ HG.out).mono ?_
 rintro e wm1 ⟨rfl,hG,hT⟩
 have HG1:=hid hG
 have HT1:Hid (Touch (inG p) _ wm1):=hid (HT0.out.trans hT)
 clear hG hT
 go_wp2_with fail
 refine(dK p c _ _ HG1.out).mono ?_
 rintro e wm2 ⟨rfl,hb⟩
 have HG2:=hid (HG1.out.later hb)
 have HT2:Hid (Touch (inG p) _ wm2):=hid (HT1.out.trans (Touch.of_below hb))
 clear hb
 go_wp2_with fail
 refine(HC2.out p _ _ HG2.out).mono ?_
 rintro e wm3 ⟨rfl,hG,hT⟩
 have HG3:=hid hG
 have HT3:Hid (Touch (inG p) _ wm3):=hid (HT2.out.trans hT)
 clear hG hT
 go_wp2_with fail
 refine(HC3.out p _ _ HG3.out).mono ?_
 rintro e wm4 ⟨rfl,hG,hT⟩
 have HG4:=hid hG
 have HT4:Hid (Touch (inG p) _ wm4):=hid (HT3.out.trans hT)
 clear hG hT
 go_wp2_with fail
 refine(HC4.out p _ _ HG4.out).mono ?_
 rintro e wm5 ⟨rfl,hG,hT⟩
 have HG5:=hid hG
 have HT5:Hid (Touch (inG p) _ wm5):=hid (HT4.out.trans hT)
 clear hG hT
 go_wp2_with fail
 refine(HC5.out p _ _ HG5.out).mono ?_
 rintro e wm6 ⟨rfl,hG,hT⟩
 have HG6:=hid hG
 have HT6:Hid (Touch (inG p) _ wm6):=hid (HT5.out.trans hT)
 clear hG hT
 go_wp2_with fail
 refine(HC6.out p _ _ HG6.out).mono ?_
 rintro e wm7 ⟨rfl,hG,hT⟩
 have HG7:=hid hG
 have HT7:Hid (Touch (inG p) _ wm7):=hid (HT6.out.trans hT)
 clear hG hT
 go_wp2_with fail
 refine(HC7.out p _ _ HG7.out).mono ?_
 rintro e wm8 ⟨rfl,hG,hT⟩
 have HG8:=hid hG
 have HT8:Hid (Touch (inG p) _ wm8):=hid (HT7.out.trans hT)
 clear hG hT
 go_wp2_with fail
 go_ret
 exact⟨rfl,HG8.out.gF rfl (by dsimp only;omega),HT8.out⟩
set_option maxHeartbeats 1000000 in
theorem Fu{k f n s:Int}{b b2:Bool}(h0:0≤k)(hk:k<(c.N:Int))(hm:c.May)(hn:s<n)(C1:Run c 40 [] zs d1 zs1 (.tuple #[.int .i64 k,.int .i64 f]))(C2:Run c 15 [.int .i64 (k+1)] zs1 d2 zs2 (.bool true))(C3:Run c 16 [.int .i64 (k+1)] zs2 d3 zs3 (.bool false))(C4:Run c 106 [.int .i64 (k+1)] zs3 d4 zs4 (.tuple #[]))(C5:Run c 60 [.int .i64 (k+1)] zs4 d5 zs5 (.int .i64 n))(C6:Run c 107 [.int .i64 (k+1)] zs5 d6 zs6 (.int .i64 s))(C7:Run c 88 [.int .i64 (k+1)] zs6 d7 zs7 (.bool b2))(C8:Run c 43 [.int .i64 (k+1),.int .i64 f] zs7 d8 zs8 (.bool b)):Run c 48 [] zs (d1+d2+d3+d4+d5+d6+d7+d8) zs8 (.bool b):=fun p m w hG=>by
 have hfc:=cfield0 (c.N:Int) (c.W:Int) (c.R:Int) (c.K:Int)
 have hmn:=hm.n
 have hkn:¬(c.N:Int)≤k:=by omega
 have hw1:IntKind.i64.wrap (k+1)=k+1:=IntWalk.i64_in _ (by omega)
 clear hm hmn
 have HG:=hid hG
 have HC1:=hid C1
 have HC2:=hid C2
 have HC3:=hid C3
 have HC4:=hid C4
 have HC5:=hid C5
 have HC6:=hid C6
 have HC7:=hid C7
 have HC8:=hid C8
 clear hG C1 C2 C3 C4 C5 C6 C7 C8
 go_enter Tryz.func48,Tryz.ntmps48
 have HT0:Hid (Touch (inG p) w w):=hid (Touch.refl _ _)
 go_wp2_with fail
 refine(HC1.out p _ _ HG.out).mono ?_
 rintro e wm1 ⟨rfl,hG,hT⟩
 have HG1:=hid hG
 have HT1:Hid (Touch (inG p) _ wm1):=hid (HT0.out.trans hT)
 clear hG hT
 go_wp2_with fail
 refine(dK p c _ _ HG1.out).mono ?_
 rintro e wm2 ⟨rfl,hb⟩
 have HG2:=hid (HG1.out.later hb)
 have HT2:Hid (Touch (inG p) _ wm2):=hid (HT1.out.trans (Touch.of_below hb))
 clear hb
 go_wp2_with fail
 refine(HC2.out p _ _ HG2.out).mono ?_
 rintro e wm3 ⟨rfl,hG,hT⟩
 have HG3:=hid hG
 have HT3:Hid (Touch (inG p) _ wm3):=hid (HT2.out.trans hT)
 clear hG hT
 go_wp2_with fail
 refine(HC3.out p _ _ HG3.out).mono ?_
 rintro e wm4 ⟨rfl,hG,hT⟩
 have HG4:=hid hG
 have HT4:Hid (Touch (inG p) _ wm4):=hid (HT3.out.trans hT)
 clear hG hT
 go_wp2_with fail
 refine(HC4.out p _ _ HG4.out).mono ?_
 rintro e wm5 ⟨rfl,hG,hT⟩
 have HG5:=hid hG
 have HT5:Hid (Touch (inG p) _ wm5):=hid (HT4.out.trans hT)
 clear hG hT
 go_wp2_with fail
 refine(HC5.out p _ _ HG5.out).mono ?_
 rintro e wm6 ⟨rfl,hG,hT⟩
 have HG6:=hid hG
 have HT6:Hid (Touch (inG p) _ wm6):=hid (HT5.out.trans hT)
 clear hG hT
 go_wp2_with fail
 refine(HC6.out p _ _ HG6.out).mono ?_
 rintro e wm7 ⟨rfl,hG,hT⟩
 have HG7:=hid hG
 have HT7:Hid (Touch (inG p) _ wm7):=hid (HT6.out.trans hT)
 clear hG hT
 go_wp2_with fail
 refine(HC7.out p _ _ HG7.out).mono ?_
 rintro e wm8 ⟨rfl,hG,hT⟩
 have HG8:=hid hG
 have HT8:Hid (Touch (inG p) _ wm8):=hid (HT7.out.trans hT)
 clear hG hT
 go_wp2_with fail
 refine(HC8.out p _ _ HG8.out).mono ?_
 rintro e wm9 ⟨rfl,hG,hT⟩
 have HG9:=hid hG
 have HT9:Hid (Touch (inG p) _ wm9):=hid (HT8.out.trans hT)
 clear hG hT
 go_wp2_with fail
 go_ret
 exact⟨rfl,HG9.out.gF rfl (by dsimp only;omega),HT9.out⟩
set_option maxHeartbeats 1000000 in
theorem xz{v:Int}(hv:v≠2)(C1:Run c 12 [] zs d1 zs1 (.int .i64 v)):Run c 13 [] zs (d1) zs1 (.bool false):=fun p m w hG=>by
 have hvb:(v==2)=false:=by rw[beq_eq_false_iff_ne];exact hv
 clear hv
 have HG:=hid hG
 have HC1:=hid C1
 clear hG C1
 go_enter Tryz.func13,Tryz.ntmps13
 have HT0:Hid (Touch (inG p) w w):=hid (Touch.refl _ _)
 go_wp2_with fail
 refine(HC1.out p _ _ HG.out).mono ?_
 rintro e wm1 ⟨rfl,hG,hT⟩
 have HG1:=hid hG
 have HT1:Hid (Touch (inG p) _ wm1):=hid (HT0.out.trans hT)
 clear hG hT
 go_wp2_with fail
 go_ret
 exact⟨rfl,HG1.out,HT1.out⟩
set_option maxHeartbeats 1000000 in
theorem zP(C1:Run c 12 [] zs d1 zs1 (.int .i64 2))(C2:Run c 46 [] zs1 d2 zs2 (.bool true)):Run c 13 [] zs (d1+d2) zs2 (.bool true):=fun p m w hG=>by
 have HG:=hid hG
 have HC1:=hid C1
 have HC2:=hid C2
 clear hG C1 C2
 go_enter Tryz.func13,Tryz.ntmps13
 have HT0:Hid (Touch (inG p) w w):=hid (Touch.refl _ _)
 go_wp2_with fail
 refine(HC1.out p _ _ HG.out).mono ?_
 rintro e wm1 ⟨rfl,hG,hT⟩
 have HG1:=hid hG
 have HT1:Hid (Touch (inG p) _ wm1):=hid (HT0.out.trans hT)
 clear hG hT
 go_wp2_with fail
 refine(HC2.out p _ _ HG1.out).mono ?_
 rintro e wm2 ⟨rfl,hG,hT⟩
 have HG2:=hid hG
 have HT2:Hid (Touch (inG p) _ wm2):=hid (HT1.out.trans hT)
 clear hG hT
 go_wp2_with fail
 go_ret
 exact⟨rfl,HG2.out.gF rfl (by dsimp only;omega),HT2.out⟩
set_option maxHeartbeats 1000000 in
theorem vo(C1:Run c 12 [] zs d1 zs1 (.int .i64 2))(C2:Run c 46 [] zs1 d2 zs2 (.bool false))(C3:Run c 47 [] zs2 d3 zs3 (.bool true)):Run c 13 [] zs (d1+d2+d3) zs3 (.bool true):=fun p m w hG=>by
 have HG:=hid hG
 have HC1:=hid C1
 have HC2:=hid C2
 have HC3:=hid C3
 clear hG C1 C2 C3
 go_enter Tryz.func13,Tryz.ntmps13
 have HT0:Hid (Touch (inG p) w w):=hid (Touch.refl _ _)
 go_wp2_with fail
 refine(HC1.out p _ _ HG.out).mono ?_
 rintro e wm1 ⟨rfl,hG,hT⟩
 have HG1:=hid hG
 have HT1:Hid (Touch (inG p) _ wm1):=hid (HT0.out.trans hT)
 clear hG hT
 go_wp2_with fail
 refine(HC2.out p _ _ HG1.out).mono ?_
 rintro e wm2 ⟨rfl,hG,hT⟩
 have HG2:=hid hG
 have HT2:Hid (Touch (inG p) _ wm2):=hid (HT1.out.trans hT)
 clear hG hT
 go_wp2_with fail
 refine(HC3.out p _ _ HG2.out).mono ?_
 rintro e wm3 ⟨rfl,hG,hT⟩
 have HG3:=hid hG
 have HT3:Hid (Touch (inG p) _ wm3):=hid (HT2.out.trans hT)
 clear hG hT
 go_wp2_with fail
 go_ret
 exact⟨rfl,HG3.out.gF rfl (by dsimp only;omega),HT3.out⟩
set_option maxHeartbeats 1000000 in
theorem qp{b:Bool}(C1:Run c 12 [] zs d1 zs1 (.int .i64 2))(C2:Run c 46 [] zs1 d2 zs2 (.bool false))(C3:Run c 47 [] zs2 d3 zs3 (.bool false))(C4:Run c 48 [] zs3 d4 zs4 (.bool b)):Run c 13 [] zs (d1+d2+d3+d4) zs4 (.bool b):=fun p m w hG=>by
 have HG:=hid hG
 have HC1:=hid C1
 have HC2:=hid C2
 have HC3:=hid C3
 have HC4:=hid C4
 clear hG C1 C2 C3 C4
 go_enter Tryz.func13,Tryz.ntmps13
 have HT0:Hid (Touch (inG p) w w):=hid (Touch.refl _ _)
 go_wp2_with fail
 refine(HC1.out p _ _ HG.out).mono ?_
 rintro e wm1 ⟨rfl,hG,hT⟩
 have HG1:=hid hG
 have HT1:Hid (Touch (inG p) _ wm1):=hid (HT0.out.trans hT)
 clear hG hT
 go_wp2_with fail
 refine(HC2.out p _ _ HG1.out).mono ?_
 rintro e wm2 ⟨rfl,hG,hT⟩
 have HG2:=hid hG
 have HT2:Hid (Touch (inG p) _ wm2):=hid (HT1.out.trans hT)
 clear hG hT
 go_wp2_with fail
 refine(HC3.out p _ _ HG2.out).mono ?_
 rintro e wm3 ⟨rfl,hG,hT⟩
 have HG3:=hid hG
 have HT3:Hid (Touch (inG p) _ wm3):=hid (HT2.out.trans hT)
 clear hG hT
 go_wp2_with fail
 refine(HC4.out p _ _ HG3.out).mono ?_
 rintro e wm4 ⟨rfl,hG,hT⟩
 have HG4:=hid hG
 have HT4:Hid (Touch (inG p) _ wm4):=hid (HT3.out.trans hT)
 clear hG hT
 go_wp2_with fail
 go_ret
 exact⟨rfl,HG4.out.gF rfl (by dsimp only;omega),HT4.out⟩
end
end Go.Proofs.YtofhdfjkhfkhiaaGreat.Pk
