/-
  Texts laid together: GravGrown, LinkNam, GravLi, LinkActF.
-/
import Derived.Test.YtjmifnljckmimaaGreatGravNamEtc
import Derived.Test.YtjmifnljckmimaaGreatObjWholeFEtc
import Derived.Test.YtjmifnljckmimaaGreatRecsEtc
import Derived.Test.YtjmifnljckmimaaGreatLinkDoEtc
import Derived.Test.YtjmifnljckmimaaGreatTintLikeFEtc
namespace Go.Proofs.YtjmifnljckmimaaGreat.Pk
open Lib (hid)
open Go.RowKit
set_option linter.unusedVariables false
set_option linter.unusedSimpArgs false
set_option maxRecDepth 100000
section
variable {c:Cf} {D:Wd} {x y:Int} {w wr:World} {p:Pl} {N k:Nat}
theorem ic.sizes(h:ic w p c D wr):∀t,t∈D.live→t.pt.length≤100000:=fun t ht=>by
 obtain⟨zs,m,hG,hR,_⟩:=h
 have:=(hR.sizes hG.wz ht).1
 omega
end
section
variable {c:Cf} {D:Wd} {t u:Th} {r x:Int} {w wr:World} {p:Pl} {zs:List Int}
theorem ic.Vh(h:ic w p c D wr):Calls Tryz.prog 27 #[.pointer (some ⟨p.a,0,none⟩)] wr fun e w'=>e=.returned (.agg #[.int .i64 (c.N:Int),.int .i64 (c.W:Int),.int .i64 (c.R:Int),.int .i64 (c.K:Int)])∧Below wr.heap.size wr w':=by
 obtain⟨zs,m,hG,hR,_⟩:=h
 exact Ap p c ⟨zs,m⟩ wr hG
end
section
variable {w wr w':World} {p:Pl} {c:Cf} {s:St} {D:Wd}
set_option maxHeartbeats 1000000 in
theorem QY(l:List Nat)(hG:G w p c s)(hC:aV c s.zs 1 l)(hb:∀b,b∈l→b<10000000)(hl:l.length≤9000):
  Calls Tryz.prog 63 #[.pointer (some ⟨p.a,0,none⟩)] w (fA (l.map (· +1)) w):=by
 obtain⟨i0,hi,hz0,hz1,hz2⟩:=info_parts jy
 have H:=hid (rD p c s 1 l w hG hC (by omega))
 have HBd:=hid hb
 clear hG hC hb
 go_enter Tryz.func63,Tryz.ntmps63
 go_wp2_with fail
 refine H.out.mono ?_
 rintro e w1 ⟨a,cap,rfl,h2,h3,h4⟩
 have HR:=hid h2
 have HB:=hid h4
 clear h2 h3 h4
 go_wp2_with fail
 go_loopw [3,9] (fun v i wr=>∃k:Nat,k≤l.length∧i=.int .i64 (k:Int)∧ib w1 v k ((ints (l.map (· +1))).take k) wr) (fun _ i _=>l.length-(intOf i).toNat)
 case atStart=>exact⟨0,Nat.zero_le _,rfl,World.ownsRow_nil _ _ _ _,Below.refl _ _⟩
 case round=>
  obtain⟨k,hk,rfl,hown,hbel⟩:=hrel
  have hsz:=hbel.size
  by_cases hlt:k<l.length
  ·obtain⟨b,off,rfl,hb,hcw⟩:=HR.out k (by rw[aC];exact hlt)
   have hc:=(hbel.cell (p:=⟨b,off+k,none⟩) hb).trans hcw
   have hn:nth (ints l) k=((l[k]:Nat):Int):=kz hlt
   have hbd:=HBd.out l[k] (List.getElem_mem hlt)
   rw[hn] at hc
   have hwr:IntKind.i64.wrap (((l[k]:Nat):Int)+1)=((l[k]:Nat):Int)+1:=IntWalk.i64_in _ (by omega)
   have HT:Hid ((ints (l.map (· +1))).take (k+1)=(ints (l.map (· +1))).take k++[((l[k]:Nat):Int)+1]):=hid (by
    have hlt2:k<(l.map (· +1)).length:=by simpa using hlt
    rw[jh (by rw[aC];exact hlt2),kz hlt2]
    simp)
   generalize ((l[k]:Nat):Int)=y at*
   clear hcw hn hbd
   go_wp2_with (at_builtin;refine wpList_append_own _ rfl _ _ 45 rfl w1.heap.size 3 i0 (.int .i64 0) 1 8 Tryz.underlying45 hi hz0 hz1 hz2 rfl (by decide) _ _ _ rfl (hown.alloc _) ⟨wr.heap.size,0,none⟩ 1 1 [.int .i64 (y+1)] rfl rfl ?c1 ?c2 ?c3 ?c4 ?c5 ?c6)
   case c2=>rfl
   case c3=>unfold maxLen;omega
   case c4=>omega
   case c5=>omega
   case c6=>
    intro v' w6 hown' hgrow _
    have hbel1:Below w1.heap.size w1 w6:=(hbel.alloc hsz _).grown hgrow (by simp;omega) (aN hown)
    have HGa:Hid (ib w1 v' (k+1) ((ints (l.map (· +1))).take (k+1)) w6):=by
     refine⟨?_,hbel1⟩
     rw[HT.out]
     simpa using hown'
    clear hown' hgrow hbel1 hown hbel hc
    go_wp2_with fail
    go_roundw
    case rel=>exact⟨k+1,by omega,by go_num,HGa.out⟩
    case measure=>simp[intOf];omega
  ·obtain rfl:k=l.length:=by omega
   have hN:dQ w1 (ints (l.map (· +1))) (.returned _) wr:=dQ.mk (n:=l.length) (by rw[aC];simp) ⟨by rw[List.take_of_length_le (by rw[aC];simp)] at hown;exact hown,hbel⟩
   have HN:=hid hN
   clear hown hbel hN
   go_wp2_with fail
   go_ret
   obtain⟨a',cap',e1,e2,e3,e4⟩:=HN.out
   rw[aC] at e1
   exact⟨a',cap',e1,e2,fun b off e=>Nat.le_trans HB.out.size (e3 b off e),below_step HB.out e4⟩
theorem Tz(hG:G w p c s){y:Int}(h6:nth s.zs 6=y):Calls Tryz.prog 64 #[.pointer (some ⟨p.a,0,none⟩)] w fun e w'=>e=.returned (.int .i64 y)∧w=w':=by
 have HC:=hid (wT p c s 6 6 y w hG (by omega) rfl h6)
 clear hG h6
 go_enter Tryz.func64,Tryz.ntmps64
 go_wp2_with fail
 refine HC.out.mono ?_
 rintro e w1 ⟨rfl,rfl⟩
 go_wp2_with fail
 go_ret
 exact⟨rfl,rfl⟩
theorem ic.Lt(h:ic w p c D wr)(hb:∀t,t∈D.ts→t.h<1000000)(hl:D.grave.length≤8000):Calls Tryz.prog 63 #[.pointer (some ⟨p.a,0,none⟩)] wr (fA D.grave wr):=by
 obtain⟨zs,m,hG,hR,_⟩:=h
 have e:(D.grave.map (· -1)).map (· +1)=D.grave:=by
  rw[List.map_map]
  conv=>rhs;rw[←List.map_id D.grave]
  refine List.map_congr_left (fun g hg=> ?_)
  obtain⟨t,_,ht⟩:=hR.gv g hg
  show g-1+1=g
  omega
 have:=QY (s:=⟨zs,m⟩) (D.grave.map (· -1)) hG hR.grave (fun b hbm=>by
  obtain⟨g,hg,rfl⟩:=List.mem_map.1 hbm
  obtain⟨t,ht,e⟩:=hR.gv g hg
  have:=hb t (gM.1 ht).1
  omega) (by simp;omega)
 rw[e] at this
 exact this
theorem ic.Pb(h:ic w p c D wr):Calls Tryz.prog 62 #[.pointer (some ⟨p.a,0,none⟩)] wr (fA D.clean wr):=
 h.looks (fun zs hz hr=>Cz.list c zs D.clean hz hr.heap.pl.ch)
theorem ic.Og(h:ic w p c D wr):Calls Tryz.prog 64 #[.pointer (some ⟨p.a,0,none⟩)] wr fun e w'=>e=.returned (.int .i64 D.pending)∧wr=w':=by
 obtain⟨zs,m,hG,hR,_⟩:=h
 exact Tz (s:=⟨zs,m⟩) hG hR.r6
theorem ic.NE{r:Int}(hr:In64 r)(h:ic w p c D wr):Calls Tryz.prog 67 #[.pointer (some ⟨p.a,0,none⟩),.int .i64 r] wr fun e w'=>e=.returned (.int .i64 (D.cnt r))∧Below wr.heap.size wr w':=by
 refine h.looks (f:=67) (args:=[.int .i64 r]) (Q:=fun w e w'=>e=.returned (.int .i64 (D.cnt r))∧Below w.heap.size w w') (fun zs hz R=> ?_)
 cases hf:D.find r with
 |none=>
  have:=mZ.see_no c zs D.clean D.bZ r hz R.heap hr (by rw[fw R r,hf];rfl)
  rw[show D.cnt r=0 by unfold Wd.cnt;rw[hf]]
  exact this
 |some t=>
  obtain⟨htl,e⟩:=ax hf
  have:=mZ.see_yes c zs D.clean D.bZ t.ob hz R.heap (R.bN htl)
  have e':((t.ob.h:Nat):Int)+1=r:=e
  rw[e'] at this
  have e3:nth zs (ai c t.ob.h 3)=t.mr.refs:=(R.own t htl).w3
  rw[e3] at this
  rw[show D.cnt r=t.mr.refs by unfold Wd.cnt;rw[hf]]
  exact this
end
theorem sw{φ ψ:Th→Nat}(M:Nat):∀{l:List Th},(∀t,t∈bP l→φ t≤M*ψ t)→bS φ l≤M*bS ψ l
 |[],_=>by simp[bS,bP]
 |u::l,h=>by
  have h1:=sw M (l:=l) (fun t ht=>h t (by rw[aO];split;exact ht;exact List.mem_cons_of_mem _ ht))
  rw[dm,dm,Nat.mul_add]
  cases hu:u.ended with
  |true=>simp;exact h1
  |false=>
   have h2:=h u (by rw[aO,hu];simp)
   simp
   omega
section
variable {w wr w':World} {p:Pl} {c:Cf} {q k:Nat} {D D':Wd} {hold hold':Nat→Nat} {t:Th} {r x i:Int}
end
section
variable {w wr:World} {p:Pl} {c:Cf} {q k:Nat} {D:Wd} {hold:Nat→Nat}
end
end Go.Proofs.YtjmifnljckmimaaGreat.Pk
