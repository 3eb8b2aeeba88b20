/-
  Texts laid together: GravGrown, LinkNam, GravLi.
-/
import Derived.Test.YtbhhfnlkpieebaaGreatGravNamEtc
import Derived.Test.YtbhhfnlkpieebaaGreatObjWholeFEtc
import Derived.Test.YtbhhfnlkpieebaaGreatRecsEtc
import Derived.Test.YtbhhfnlkpieebaaGreatLinkFnEtc
import Derived.Test.YtbhhfnlkpieebaaGreatTintLikeFEtc
namespace Go.Proofs.YtbhhfnlkpieebaaGreat.Pk
open Lib (hid)
open Go.RowKit
set_option linter.unusedVariables false
set_option linter.unusedSimpArgs false
set_option maxRecDepth 100000
section
variable {c:Cf} {D:Wd} {x y:Int} {w wr:World} {p:Pl} {N k:Nat}
theorem RSt.sizes(h:RSt w p c D wr):∀t,t∈D.live→t.pt.length≤100000:=fun t ht=>by
 obtain⟨zs,m,hG,hR,_⟩:=h
 have:=(hR.sizes hG.wz ht).1
 omega
theorem Gro.in64(G:Gro N D k)(hN:N≤10000){j:Nat}(hj:j<D.allR.length):In64 (nth D.allR j):=by
 obtain⟨t,ht,e,_⟩:=G.at hj
 have:=G.lt t (mem_live.1 ht).1
 rw[e]
 unfold In64
 omega
end
def Qu(X:Nat→Wd→Prop)(w:World)(lo:Nat)(p:Pl)(N k j m:Nat)(v:Value)(wr:World):Prop:=
 ∃D,RSt w p (cfR N) D wr∧Gro N D k∧D.allR.length≤j∧wr.ownsRow lo 3 1 v D.allR.length (D.allR.map (Value.int .i64))∧lo≤wr.heap.size∧X m D
theorem Qu.later{X:Nat→Wd→Prop}{w wr w':World}{lo:Nat}{p:Pl}{N k j m:Nat}{v:Value}(h:Qu X w lo p N k j m v wr)(hb:Below wr.heap.size wr w'):Qu X w lo p N k j m v w':=by
 obtain⟨D,h1,h2,h3,h4,h5,h6⟩:=h
 exact⟨D,h1.later hb,h2,h3,own_touch h4 (Touch.of_below (X:=fun _=>False) hb) (fun _ _ h=>h),Nat.le_trans h5 hb.size,h6⟩
section
variable {c:Cf} {D:Wd} {t u:Th} {r x:Int} {w wr:World} {p:Pl} {zs:List Int}
theorem RSt.confC(h:RSt w p c D wr):Calls Tryz.prog 29 #[.pointer (some ⟨p.a,0,none⟩)] wr fun e w'=>e=.returned (.agg #[.int .i64 (c.N:Int),.int .i64 (c.W:Int),.int .i64 (c.R:Int),.int .i64 (c.K:Int)])∧Below wr.heap.size wr w':=by
 obtain⟨zs,m,hG,hR,_⟩:=h
 exact xE p c ⟨zs,m⟩ wr hG
end
section
variable {w wr w':World} {p:Pl} {c:Cf} {s:St} {D:Wd}
set_option maxHeartbeats 1000000 in
theorem LJ(l:List Nat)(hG:G w p c s)(hC:aA c s.zs 1 l)(hb:∀b,b∈l→b<10000000)(hl:l.length≤9000):
  Calls Tryz.prog 53 #[.pointer (some ⟨p.a,0,none⟩)] w (dn (l.map (· +1)) w):=by
 obtain⟨i0,hi,hz0,hz1,hz2⟩:=info_parts infoInt
 have H:=hid (oL p c s 1 l w hG hC (by omega))
 have HBd:=hid hb
 clear hG hC hb
 go_enter Tryz.func53,Tryz.ntmps53
 go_wp2_with fail
 refine H.out.mono ?_
 rintro e w1 ⟨a,cap,rfl,h2,h3,h4⟩
 have HR:=hid h2
 have HB:=hid h4
 clear h2 h3 h4
 go_wp2_with fail
 go_loopw [3,9] (fun v i wr=>∃k:Nat,k≤l.length∧i=.int .i64 (k:Int)∧eu w1 v k ((ints (l.map (· +1))).take k) wr) (fun _ i _=>l.length-(intOf i).toNat)
 case atStart=>exact⟨0,Nat.zero_le _,rfl,World.ownsRow_nil _ _ _ _,Below.refl _ _⟩
 case round=>
  obtain⟨k,hk,rfl,hown,hbel⟩:=hrel
  have hsz:=hbel.size
  by_cases hlt:k<l.length
  ·obtain⟨b,off,rfl,hb,hcw⟩:=HR.out k (by rw[ae];exact hlt)
   have hc:=(hbel.cell (p:=⟨b,off+k,none⟩) hb).trans hcw
   have hn:nth (ints l) k=((l[k]:Nat):Int):=iK hlt
   have hbd:=HBd.out l[k] (List.getElem_mem hlt)
   rw[hn] at hc
   have hwr:IntKind.i64.wrap (((l[k]:Nat):Int)+1)=((l[k]:Nat):Int)+1:=IntWalk.i64_in _ (by omega)
   have HT:Hid ((ints (l.map (· +1))).take (k+1)=(ints (l.map (· +1))).take k++[((l[k]:Nat):Int)+1]):=hid (by
    have hlt2:k<(l.map (· +1)).length:=by simpa using hlt
    rw[gD (by rw[ae];exact hlt2),iK hlt2]
    simp)
   generalize ((l[k]:Nat):Int)=y at*
   clear hcw hn hbd
   go_wp2_with (at_builtin;refine wpList_append_own _ rfl _ _ 39 rfl w1.heap.size 3 i0 (.int .i64 0) 1 8 Tryz.underlying39 hi hz0 hz1 hz2 rfl (by decide) _ _ _ rfl (hown.alloc _) ⟨wr.heap.size,0,none⟩ 1 1 [.int .i64 (y+1)] rfl rfl ?c1 ?c2 ?c3 ?c4 ?c5 ?c6)
   case c2=>rfl
   case c3=>unfold maxLen;omega
   case c4=>omega
   case c5=>omega
   case c6=>
    intro v' w6 hown' hgrow _
    have hbel1:Below w1.heap.size w1 w6:=(hbel.alloc hsz _).grown hgrow (by simp;omega) (owns_block hown)
    have HGa:Hid (eu w1 v' (k+1) ((ints (l.map (· +1))).take (k+1)) w6):=by
     refine⟨?_,hbel1⟩
     rw[HT.out]
     simpa using hown'
    clear hown' hgrow hbel1 hown hbel hc
    go_wp2_with fail
    go_roundw
    case rel=>exact⟨k+1,by omega,by go_num,HGa.out⟩
    case measure=>simp[intOf];omega
  ·obtain rfl:k=l.length:=by omega
   have hN:bN w1 (ints (l.map (· +1))) (.returned _) wr:=bN.mk (n:=l.length) (by rw[ae];simp) ⟨by rw[List.take_of_length_le (by rw[ae];simp)] at hown;exact hown,hbel⟩
   have HN:=hid hN
   clear hown hbel hN
   go_wp2_with fail
   go_ret
   obtain⟨a',cap',e1,e2,e3,e4⟩:=HN.out
   rw[ae] at e1
   exact⟨a',cap',e1,e2,fun b off e=>Nat.le_trans HB.out.size (e3 b off e),below_step HB.out e4⟩
theorem NF(hG:G w p c s){y:Int}(h6:nth s.zs 6=y):Calls Tryz.prog 54 #[.pointer (some ⟨p.a,0,none⟩)] w fun e w'=>e=.returned (.int .i64 y)∧w=w':=by
 have HC:=hid (tL p c s 6 6 y w hG (by omega) rfl h6)
 clear hG h6
 go_enter Tryz.func54,Tryz.ntmps54
 go_wp2_with fail
 refine HC.out.mono ?_
 rintro e w1 ⟨rfl,rfl⟩
 go_wp2_with fail
 go_ret
 exact⟨rfl,rfl⟩
theorem RSt.Gf(h:RSt w p c D wr)(hb:∀t,t∈D.ts→t.h<1000000)(hl:D.grave.length≤8000):Calls Tryz.prog 53 #[.pointer (some ⟨p.a,0,none⟩)] wr (dn D.grave wr):=by
 obtain⟨zs,m,hG,hR,_⟩:=h
 have e:(D.grave.map (· -1)).map (· +1)=D.grave:=by
  rw[List.map_map]
  conv=>rhs;rw[←List.map_id D.grave]
  refine List.map_congr_left (fun g hg=> ?_)
  obtain⟨t,_,ht⟩:=hR.gv g hg
  show g-1+1=g
  omega
 have:=LJ (s:=⟨zs,m⟩) (D.grave.map (· -1)) hG hR.grave (fun b hbm=>by
  obtain⟨g,hg,rfl⟩:=List.mem_map.1 hbm
  obtain⟨t,ht,e⟩:=hR.gv g hg
  have:=hb t (mem_live.1 ht).1
  omega) (by simp;omega)
 rw[e] at this
 exact this
theorem RSt.JV(h:RSt w p c D wr):Calls Tryz.prog 82 #[.pointer (some ⟨p.a,0,none⟩)] wr (dn D.clean wr):=
 h.looks (fun zs hz hr=>poolFns.list c zs D.clean hz hr.heap.pl.ch)
theorem RSt.Jq(h:RSt w p c D wr):Calls Tryz.prog 54 #[.pointer (some ⟨p.a,0,none⟩)] wr fun e w'=>e=.returned (.int .i64 D.pending)∧wr=w':=by
 obtain⟨zs,m,hG,hR,_⟩:=h
 exact NF (s:=⟨zs,m⟩) hG hR.r6
theorem RSt.IU{r:Int}(hr:In64 r)(h:RSt w p c D wr):Calls Tryz.prog 86 #[.pointer (some ⟨p.a,0,none⟩),.int .i64 r] wr fun e w'=>e=.returned (.int .i64 (D.cnt r))∧Below wr.heap.size wr w':=by
 refine h.looks (f:=86) (args:=[.int .i64 r]) (Q:=fun w e w'=>e=.returned (.int .i64 (D.cnt r))∧Below w.heap.size w w') (fun zs hz R=> ?_)
 cases hf:D.find r with
 |none=>
  have:=pO.see_no c zs D.clean D.obs r hz R.heap hr (by rw[fB R r,hf];rfl)
  rw[show D.cnt r=0 by unfold Wd.cnt;rw[hf]]
  exact this
 |some t=>
  obtain⟨htl,e⟩:=find_live hf
  have:=pO.see_yes c zs D.clean D.obs t.ob hz R.heap (R.bg htl)
  have e':((t.ob.h:Nat):Int)+1=r:=e
  rw[e'] at this
  have e3:nth zs (adr c t.ob.h 3)=t.mr.refs:=(R.own t htl).w3
  rw[e3] at this
  rw[show D.cnt r=t.mr.refs by unfold Wd.cnt;rw[hf]]
  exact this
end
end Go.Proofs.YtbhhfnlkpieebaaGreat.Pk
