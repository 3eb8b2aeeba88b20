/-
  Layer 17's law of reaches: who can be reached from a hold is black, whatever is done between the steps of count and flood.
-/
import Derived.Test.YtofhdfjkhfkhiaaGreatTallyOneEtc
import Derived.Test.YtofhdfjkhfkhiaaGreatFloodRchEtc
import Derived.Test.YtofhdfjkhfkhiaaGreatFloodWEtc
import Derived.Test.YtofhdfjkhfkhiaaGreatLinkCntFEtc
import Derived.Test.YtofhdfjkhfkhiaaGreatTameEtc
namespace Go.Proofs.YtofhdfjkhfkhiaaGreat.Pk
open Lib (hid)
open Go.RowKit
set_option linter.unusedVariables false
set_option linter.unusedSimpArgs false
set_option maxRecDepth 100000
section
variable {w wr w' w9:World} {p:Pl} {c:Cf} {q k:Nat} {D D':Wd} {hold hold':Nat→Nat} {ph:Int} {t u:Th} {l fl:List Int} {v:Value}
theorem make_holds17(n:Nat)(hn:n≤255)(w:World):(Instr.makeSlice 30 (.int .i64 (n:Int)) (.int .i64 (n:Int))).run Tryz.prog w=.ok (.slice (some ⟨w.heap.size,0,none⟩) n n) (w.alloc (.cells (arrV (fun _=>.int .i64 0) n) 3)):=by
 obtain⟨i0,hi,hz0,hz1,hz2⟩:=info_parts infoInt
 have:=run_make w 30 3 i0 (.int .i64 0) Tryz.underlying30 hi hz0 .i64 .i64 (n:Int) (n:Int) (by omega) (Int.le_refl _) (by rw[hz2];omega) (by omega)
 rw[this,hz1,←made_arr _ rfl]
 simp
theorem FInv.held(O:FInv c hold k ph D){b:Nat}(h:0<hold b):∃t,D.find ((b:Int)+1)=some t∧t.mr.dead=false∧t∈D.live∧t.h=b:=held_of O.li.san O.li.nam O.li.out h
structure FrS (w9:World) (c:Cf) (hold:Nat→Nat) (j:Nat) (v:Value) (l:List Int) (wr:World):Prop where
 td:wr.ownsRow w9.heap.size 3 1 v l.length (l.map (Value.int .i64))
 below:Below w9.heap.size w9 wr
 mem:∀x,x∈l→∃b:Nat,x=(b:Int)+1∧0<hold b
 len:l.length≤j
theorem FrS.next(h:FrS w9 c hold q v l wr):FrS w9 c hold (q+1) v l wr:=⟨h.td,h.below,h.mem,Nat.le_succ_of_le h.len⟩
theorem FrS.push(h:FrS w9 c hold q v l wr){j:Nat}{x:Int}(hq:q≤j){b:Nat}(hx:x=(b:Int)+1)(hb:0<hold b){w3:World}{v':Value}(ho:w3.ownsRow w9.heap.size 3 1 v' (l.length+1) (l.map (Value.int .i64)++[.int .i64 x]))(hg:(wr.alloc (.cells #[.int .i64 x] 3)).grownBy w3 v.ownBlock):FrS w9 c hold (j+1) v' (l++[x]) w3:=by
 have hq2:=owns_block h.td
 refine⟨by rw[List.length_append,List.map_append];exact ho,?_,fun y hy=> ?_,by rw[List.length_append];have:=h.len;simp;omega⟩
 ·exact h.below.trans (Touch.below ((Touch.of_below (X:=fun b=>v.ownBlock=some b) (below_new wr (.cells #[.int .i64 x] 3))).trans (mk_grown_touch hg)) (fun b hb=>hq2 b hb) h.below.size)
 ·rw[List.mem_append,List.mem_singleton] at hy
  rcases hy with hy|rfl
  ·exact h.mem y hy
  ·exact⟨b,hx,hb⟩
end
def MSt17(w:World)(p:Pl)(c:Cf)(D:Wd)(q:Nat)(m:Int→Bool)(wr:World):Prop:=RSt w p c D wr∧Blk wr q (arrV (fun i=>.bool (m (i:Int))) (c.N+1)) 4∧¬ofG p q
def FT17(w:World)(p:Pl)(c:Cf)(q:Nat)(hold:Nat→Nat)(m:Nat)(wr:World):Prop:=∃D K,FSt w p c q K 1 D hold wr∧K+m≤5000000∧rhoT c.N D≤m
def FF17(w:World)(p:Pl)(c:Cf)(q:Nat)(hold:Nat→Nat)(m:Nat)(wr:World):Prop:=∃D K,FSt w p c q K 1 D hold wr∧D.phase=2∧pot D≤m
set_option maxHeartbeats 8000000 in
theorem floodReaches_few(n v:Nat)(cr ck:Int)(a:Option Addr)(cap:Nat)(rs:List (List Fld))(w:World)(h0:1≤n)(h1:n≤40)(h2:16≤v)(h3:v≤18)(h4:rs.length≤150)(hrs:Recs w a [.int .u8,.int .i64,.int .i64,.int .i64,.int .i64,.int .i64] rs):
  Calls Tryz.prog 3 #[.agg #[.int .i64 (n:Int),.int .i64 (v:Int),.int .i64 cr,.int .i64 ck],.slice a rs.length cap] w fun e w'=>e=.returned (.bool true)∧Below w.heap.size w w':=by
 have hm:(Cf.mk n v 1 1).May:=by
  have e1:(n:Int)*(v:Int)≤40*18:=Int.mul_le_mul (by omega) (by omega) (by omega) (by omega)
  constructor<;>simp<;>omega
 have HO:=hid (fun wz=>openedRW_any poolFns ⟨n,v,1,1⟩ wz hm (by show n≤10000;omega))
 have HRs:=hid hrs
 have g0:¬(n:Int)<1:=by omega
 have g1:¬40<(n:Int):=by omega
 have g2:¬(v:Int)<16:=by omega
 have g3:¬18<(v:Int):=by omega
 have g4:¬150<(rs.length:Int):=by omega
 have HN:Hid (0<n∧n≤40∧rs.length≤150∧16≤v):=hid ⟨h0,h1,h4,h2⟩
 have ewn:IntKind.i64.wrap ((n:Int)+1)=(n:Int)+1:=IntWalk.i64_in _ (by omega)
 clear hrs hm h0 h1 h2 h3 h4
 go_enter Tryz.func3,Tryz.ntmps3
 go_wp2_with fail
 have HB0:=hid (below_new w (.cells #[.int .i64 (n:Int),.int .i64 (v:Int),.int .i64 1,.int .i64 1] 23))
 have HCf:=hid (Blk.new w #[.int .i64 (n:Int),.int .i64 (v:Int),.int .i64 1,.int .i64 1] 23)
 have HCl:Hid (w.heap.size<(w.alloc (.cells #[.int .i64 (n:Int),.int .i64 (v:Int),.int .i64 1,.int .i64 1] 23)).heap.size):=hid (by simp)
 generalize hw0:w.alloc (.cells #[.int .i64 (n:Int),.int .i64 (v:Int),.int .i64 1,.int .i64 1] 23)=w0 at*
 refine(HO.out w0).mono ?_
 rintro e w1 ⟨p,q0,lo,rfl,hS,_,_,_,_⟩
 have hmk:=make_holds17 (n+1) (by have:=HN.out.2.1;omega) w1
 rw[show((n+1:Nat):Int)=(n:Int)+1 by omega] at hmk
 have f0:w1.cell? ⟨w.heap.size,0,none⟩=some (.int .i64 (n:Int)):=(HCf.out.below hS.below HCl.out).cell 0 rfl
 have HL0:Hid (FSt w0 p ⟨n,v,1,1⟩ w1.heap.size 0 0 (Wd.new n v) (fun _=>0) (w1.alloc (.cells (arrV (fun _=>.int .i64 0) (n+1)) 3))):=hid ⟨hS.later (below_new _ _),FInv.new (c:=⟨n,v,1,1⟩) HN.out.2.2.2,by
  have hz:(fun i=>Value.int .i64 ((hN (fun _=>0) i:Nat):Int))=(fun _=>Value.int .i64 0):=funext (fun i=>by unfold hN;split<;>rfl)
  rw[hz]
  exact Blk.new _ _ _,hS.notG (Nat.le_refl _),hS.below.size⟩
 clear hS
 go_wp2_with fail
 generalize w1.alloc (.cells (arrV (fun _=>.int .i64 0) (n+1)) 3)=w2 at*
 generalize w1.heap.size=q at*
 clear hmk f0
 have hq3:Int.tdiv (rs.length:Int) 3=((rs.length/3:Nat):Int):=by rw[Int.tdiv_eq_ediv_of_nonneg (by omega)];rfl
 obtain⟨q3,hq3e⟩:∃q3:Nat,q3=rs.length/3:=⟨_,rfl⟩
 rw[←hq3e] at hq3
 have hw3:wrap64 (q3:Int)=(q3:Int):=IntWalk.wrap64_in _ (by have:=HN.out;omega)
 have HQ3:Hid (q3=rs.length/3):=hid hq3e
 clear hq3e
 go_loopw [56] (fun i wr=>∃k:Nat,k≤rs.length∧i=.int .i64 (k:Int)∧∃D hold,FSt w0 p ⟨n,v,1,1⟩ q (6*k) (if k≤q3 then 0 else 1) D hold wr) (fun i _=>rs.length-(intOf i).toNat)
 case atStart=>exact⟨0,Nat.zero_le _,rfl,_,_,by rw[if_pos (Nat.zero_le _)];exact HL0.out⟩
 case round=>
  obtain⟨k,hk,rfl,D,hold,hS⟩:=hrel
  have HBe:Hid (Below w.heap.size w wr):=hid (below_step HB0.out hS.1.below)
  by_cases hlt:k<rs.length
  ·obtain⟨b,off,kd,r,i,x,y,z,rfl,hb0,x0,x1,x2,x3,x4,x5,hkd,hr,hx⟩:=lact_of HRs.out hlt
   have y0:=(HBe.out.cell (p:=⟨b,off+k*6,none⟩) hb0).trans x0
   have y1:=(HBe.out.cell (p:=⟨b,off+k*6+1,none⟩) hb0).trans x1
   have y2:=(HBe.out.cell (p:=⟨b,off+k*6+2,none⟩) hb0).trans x2
   have y3:=(HBe.out.cell (p:=⟨b,off+k*6+3,none⟩) hb0).trans x3
   have y4:=(HBe.out.cell (p:=⟨b,off+k*6+4,none⟩) hb0).trans x4
   have y5:=(HBe.out.cell (p:=⟨b,off+k*6+5,none⟩) hb0).trans x5
   have HIn:Hid (0≤kd∧In64 r∧In64 x):=hid ⟨hkd,hr,hx⟩
   have HBx:=hid (Blk.new wr #[.int .u8 kd,.int .i64 r,.int .i64 i,.int .i64 x,.int .i64 y,.int .i64 z] 34)
   have HS1:=hid (hS.later (below_new wr (.cells #[.int .u8 kd,.int .i64 r,.int .i64 i,.int .i64 x,.int .i64 y,.int .i64 z] 34)))
   have HNg:Hid (¬inG p wr.heap.size):=hid (fun hx=>hS.1.notG (Nat.le_refl _) (Or.inr hx))
   clear hS hkd hr hx x0 x1 x2 x3 x4 x5 hb0
   by_cases hkq:k=q3
   ·have hkb:((k:Int)==(q3:Int))=true:=by rw[beq_iff_eq];omega
    have hO:=HS1.out.2.1
    rw[if_pos (show k≤q3 by omega)] at hO
    have HOb:=hid hO.begin1
    obtain⟨vt,ht⟩:=tintFns.turn ⟨n,v,1,1⟩ D
    have HTu:=hid ht
    have HBe2:=hid (ld_begin (c:=⟨n,v,1,1⟩) (D:=D.turn) 1 (by decide) (by decide))
    have HKq:=hid hkq
    clear hO ht hkq
    go_wp2_with fail
    generalize wr.alloc (.cells #[.int .u8 kd,.int .i64 r,.int .i64 i,.int .i64 x,.int .i64 y,.int .i64 z] 34)=wa at*
    generalize wr.heap.size=na at*
    clear y0 y1 y2 y3 y4 y5
    refine(HS1.out.1.does HTu.out).mono ?_
    rintro e w3 ⟨rfl,h3,hT3⟩
    have HS3:=hid h3
    have HB3:=hid (HBx.out.touch hT3 HNg.out)
    have HQ3b:=hid (HS1.out.2.2.1.touch hT3 (fun hx=>HS1.out.2.2.2.1 (Or.inr hx)))
    clear h3 hT3
    go_wp2_with fail
    refine(HS3.out.does HBe2.out).mono ?_
    rintro e w4 ⟨rfl,h4,hT4⟩
    have HB4:=hid (HB3.out.touch hT4 HNg.out)
    have HS4:Hid (FSt w0 p ⟨n,v,1,1⟩ q (6*k+2) 1 (D.turn.begin 1) hold w4):=hid ⟨h4,HOb.out,HQ3b.out.touch hT4 (fun hx=>HS1.out.2.2.2.1 (Or.inr hx)),HS1.out.2.2.2⟩
    clear h4 hT4
    have HA:=hid (one17_any HS4.out (by show n≤1000;have:=HN.out.2.1;omega) (by have:=HN.out.2.2.1;omega) kd r i x y z HIn.out.1 HIn.out.2.1 HIn.out.2.2)
    have b0:=HB4.out.cell 0 rfl
    have b1:=HB4.out.cell 1 rfl
    have b2:=HB4.out.cell 2 rfl
    have b3:=HB4.out.cell 3 rfl
    have b4:=HB4.out.cell 4 rfl
    have b5:=HB4.out.cell 5 rfl
    go_wp2_with fail
    refine HA.out.mono ?_
    rintro e w5 ⟨rfl,D',hold',hS'⟩
    have HS5:Hid (FSt w0 p ⟨n,v,1,1⟩ q (6*(k+1)) (if k+1≤q3 then 0 else 1) D' hold' w5):=hid (by rw[if_neg (by have:=HKq.out;omega)];exact⟨hS'.1,hS'.2.1.mono (by omega),hS'.2.2⟩)
    clear hS'
    go_wp2_with fail
    go_roundw
    case rel=>exact⟨k+1,by omega,by go_num,D',hold',HS5.out⟩
    case measure=>first|(simp[intOf];done)|(simp[intOf];omega)
   ·have hkb:((k:Int)==(q3:Int))=false:=by rw[beq_eq_false_iff_ne];omega
    have HA:=hid (one17_any HS1.out (by show n≤1000;have:=HN.out.2.1;omega) (by have:=HN.out.2.2.1;omega) kd r i x y z HIn.out.1 HIn.out.2.1 HIn.out.2.2)
    go_wp2_with fail
    refine HA.out.mono ?_
    rintro e w5 ⟨rfl,D',hold',hS'⟩
    have HS5:Hid (FSt w0 p ⟨n,v,1,1⟩ q (6*(k+1)) (if k+1≤q3 then 0 else 1) D' hold' w5):=hid (by
     have e:(if k+1≤q3 then(0:Int) else 1)=if k≤q3 then 0 else 1:=by
      by_cases e1:k≤q3
      ·rw[if_pos e1,if_pos (by omega)]
      ·rw[if_neg e1,if_neg (by omega)]
     rw[e]
     exact⟨hS'.1,hS'.2.1.mono (by omega),hS'.2.2⟩)
    clear hS'
    go_wp2_with fail
    go_roundw
    case rel=>exact⟨k+1,by omega,by go_num,D',hold',HS5.out⟩
    case measure=>first|(simp[intOf];done)|(simp[intOf];omega)
  ·obtain rfl:k=rs.length:=by omega
   by_cases hl3:(rs.length:Int)<3
   ·clear hS
    go_wp2_with fail
    refine(begun17_any _).mono ?_
    rintro e w9 ⟨rfl,hb⟩
    have HB9:=hid (below_step HBe.out hb)
    clear hb
    go_wp2_with fail
    go_ret
    exact⟨rfl,HB9.out⟩
   ·rw[if_neg (show ¬rs.length≤q3 by have:=HQ3.out;omega)] at hS
    obtain⟨μ,hμ⟩:=least_fn (FT17 w0 p ⟨n,v,1,1⟩ q hold)
    have HM:=hid hμ
    obtain⟨ν,hν⟩:=least_fn (FF17 w0 p ⟨n,v,1,1⟩ q hold)
    have HM2:=hid hν
    have HS0:Hid (∃m,FT17 w0 p ⟨n,v,1,1⟩ q hold m wr):=hid ⟨rhoT n D,D,_,hS,by
     have h1:=hS.1.cursF
     have h2:=HN.out.2.1
     have h3:=HN.out.2.2.1
     unfold rhoT
     omega,Nat.le_refl _⟩
    clear hS hμ hν
    go_wp2_with fail
    generalize hwr:wr=wr0 at*
    clear hwr
    go_loopw [] (fun wr=>∃m,FT17 w0 p ⟨n,v,1,1⟩ q hold m wr) (fun wr=>μ wr)
    case atStart=>exact HS0.out
    case round=>
     obtain⟨m0,hm0⟩:=hrel
     obtain⟨⟨D,K,hS,hK,hrh⟩,_⟩:=HM.out wr m0 hm0
     clear hm0
     have HS:=hid hS
     have hcu:=hS.1.cursF
     have HTy:=hid (ld_tally (c:=⟨n,v,1,1⟩) hS.2.1.li.san (fun q=>by have:=hS.2.1.pi.bd.shd q;omega))
     cases hb:D.tallyB with
     |true=>
      rw[hb] at HTy
      have hlt:=(rhoT_lt (N:=n) hcu.2.2.1 hcu.1 hcu.2.1 hS.2.1.fl hS.1.sizes hb).1
      have HI:=hid (hS.2.1.tally hcu.2.1 hS.1.sizes)
      have hrh:rhoT n D≤μ wr:=hrh
      obtain⟨m,hme⟩:∃m,m+1=μ wr:=⟨μ wr-1,by omega⟩
      have HK:Hid (K+1+m≤5000000∧rhoT n D.tally≤m):=hid ⟨by omega,by omega⟩
      clear hS hcu hK hrh hlt hb
      go_wp2_with fail
      refine(HS.out.does HTy.out HI.out).mono ?_
      rintro e w3 ⟨rfl,h3,_⟩
      have HS3:Hid (FT17 w0 p ⟨n,v,1,1⟩ q hold m w3):=hid ⟨_,_,h3,HK.out.1,HK.out.2⟩
      clear h3
      go_wp2_with fail
      go_roundw
      case rel=>exact⟨m,HS3.out⟩
      case measure=>
       have:=(HM.out w3 m HS3.out).2
       omega
     |false=>
      rw[hb] at HTy
      have HTy2:=hid (HTy.out.as rfl (tally_idle hb))
      have HPh:=hid (tintFns.phase ⟨n,v,1,1⟩ D)
      have hph:D.phase=1∨D.phase=2:=by
       rcases hS.2.1.phs with⟨h,_⟩|⟨_,h⟩
       ·omega
       ·exact h
      have HBg:Hid (D.phase=1→FInv ⟨n,v,1,1⟩ hold (K+1) 1 (D.begin 2)):=hid (fun hp=>hS.2.1.begin2 hp hcu.2.2.1 hb hS.1.hlts)
      clear hS hcu hK hrh hb HTy
      go_wp2_with fail
      refine(HS.out.does HTy2.out HS.out.2.1).mono ?_
      rintro e w3 ⟨rfl,h3,_⟩
      have HS3:=hid h3
      clear h3
      rcases hph with hp|hp
      case' inl=>
       have HBe2:=hid (ld_begin (c:=⟨n,v,1,1⟩) (D:=D) 2 (by decide) (by decide))
       have HI:=hid (HBg.out hp)
       rw[hp] at HPh
       clear hp HBg
       go_wp2_with fail
       refine(HS3.out.does HPh.out HS3.out.2.1).mono ?_
       rintro e w4 ⟨rfl,h4,_⟩
       have HS4:=hid h4
       clear h4
       go_wp2_with fail
       refine(HS4.out.does HBe2.out HI.out).mono ?_
       rintro e w5 ⟨rfl,h5,_⟩
       have HF0:Hid (∃m,FF17 w0 p ⟨n,v,1,1⟩ q hold m w5):=hid ⟨_,_,_,h5,rfl,Nat.le_refl _⟩
       clear h5 HS4 HS3 HBe2 HI HPh
       go_wp2_with fail
       generalize hwr:w5=wf at*
       clear hwr
      case' inr=>
       have HF0:Hid (∃m,FF17 w0 p ⟨n,v,1,1⟩ q hold m w3):=hid ⟨_,_,_,HS3.out,hp,Nat.le_refl _⟩
       rw[hp] at HPh
       have HP2:=hid hp
       clear hp HBg
       go_wp2_with fail
       refine(HS3.out.does HPh.out HS3.out.2.1).mono ?_
       rintro e w4 ⟨rfl,h4,_⟩
       have HF0:Hid (∃m,FF17 w0 p ⟨n,v,1,1⟩ q hold m w4):=hid (by
        obtain⟨m,D',K',h,hp',hm⟩:=HF0.out
        exact⟨_,_,_,h4,HP2.out,Nat.le_refl _⟩)
       clear h4 HS3 HPh
       go_wp2_with fail
       generalize hwr:w4=wf at*
       clear hwr
      all_goals
       clear HS HTy2 HM HS0
       go_loopw [] (fun wr=>∃m,FF17 w0 p ⟨n,v,1,1⟩ q hold m wr) (fun wr=>ν wr)
       case atStart=>exact HF0.out
       case round=>
        obtain⟨m0,hm0⟩:=hrel
        obtain⟨⟨D,K,hS,hp,hpt⟩,_⟩:=HM2.out wr m0 hm0
        clear hm0
        have HS:=hid hS
        have HFl:=hid (ld_flood (c:=⟨n,v,1,1⟩) hS.2.1.li.san)
        have hcu:=hS.1.cursF
        cases hb:D.floodB with
        |true=>
         rw[hb] at HFl
         have hlt:=wQ hS.2.1.li.san hcu.2.2.2 hb
         have HI:=hid (hS.2.1.flood hcu.1)
         obtain⟨m,hme⟩:∃m,m+1=ν wr:=⟨ν wr-1,by omega⟩
         have HK:Hid (D.flood.phase=2∧pot D.flood≤m):=hid ⟨flood_phase.1.trans hp,by omega⟩
         clear hS hcu hpt hlt hb hp
         go_wp2_with fail
         refine(HS.out.does HFl.out HI.out).mono ?_
         rintro e w6 ⟨rfl,h6,_⟩
         have HS6:Hid (FF17 w0 p ⟨n,v,1,1⟩ q hold m w6):=hid ⟨_,_,h6,HK.out.1,HK.out.2⟩
         clear h6
         go_wp2_with fail
         go_roundw
         case rel=>exact⟨m,HS6.out⟩
         case measure=>
          have:=(HM2.out w6 m HS6.out).2
          omega
        |false=>
         rw[hb] at HFl
         have HFl2:=hid (HFl.out.as rfl (eF hb))
         have HEd:Hid (∀(fl:List Int) (m:Int→Prop),MkR D fl m→(∀x,x∈fl→∃b:Nat,x=(b:Int)+1∧0<hold b)→∀x,m x→NV D x):=hid (fun fl m hm hf=>alb_of hS.2.1.li.san hS.2.1.li.nam hS.2.1.tm hS.2.1.li.out hp hcu.2.2.1 hb hS.1.hlts m hm hf)
         clear hS hcu hpt hb hp HFl
         go_wp2_with fail
         refine(HS.out.does HFl2.out HS.out.2.1).mono ?_
         rintro e w9 ⟨rfl,h9,_⟩
         have HS9:=hid h9
         have HFr0:Hid (FrS w9 ⟨n,v,1,1⟩ hold 0 (.slice none 0 0) [] w9):=hid ⟨World.ownsRow_nil _ _ _ _,Below.refl _ _,fun x hx=>absurd hx (List.not_mem_nil),Nat.le_refl _⟩
         have HMm:Hid (∀b:Nat,0<hold b→b<n):=hid (fun b hb=>by
          obtain⟨t,_,_,ht,rfl⟩:=h9.2.1.held hb
          exact h9.1.hlts t ht)
         clear h9
         go_wp2_with fail
         go_loopw [11,90] (fun tv i wr=>∃(k:Nat) (l:List Int),k≤n+1∧i=.int .i64 (k:Int)∧FrS w9 ⟨n,v,1,1⟩ hold k tv l wr) (fun _ i _=>n+1-(intOf i).toNat)
         case atStart=>exact⟨0,[],Nat.zero_le _,rfl,HFr0.out⟩
         case round=>
          obtain⟨k,l,hk,rfl,hR⟩:=hrel
          have HR:=hid hR
          have hll:=hR.len
          have hn40:=HN.out.2.1
          by_cases hlt:k<n+1
          ·have hcl:wr.cell? ⟨q,k,none⟩=some (.int .i64 ((hN hold k:Nat):Int)):=(HS9.out.2.2.1.later hR.below).arr (show k<n+1 from hlt)
           have hkl:(k:Int)<(n:Int)+1:=by omega
           by_cases hp:0<hN hold k
           ·have hpi:(0:Int)<((hN hold k:Nat):Int):=by omega
            have HX:Hid (∃b:Nat,(k:Int)=(b:Int)+1∧0<hold b):=hid (by
             unfold hN at hp
             by_cases e:k=0
             ·rw[if_pos e] at hp;omega
             ·rw[if_neg e] at hp
              exact⟨k-1,by omega,hp⟩)
            have hown:=hR.td
            obtain⟨i0,hinf,hz0,hz1,hz2⟩:=info_parts infoInt
            have hsz9:=hR.below.size
            clear hR hp
            go_wp2_with (at_builtin;refine wpList_append_lies _ rfl _ _ 30 rfl w9.heap.size 3 i0 (.int .i64 0) 1 8 Tryz.underlying30 hinf hz0 hz1 hz2 rfl (by decide) _ _ _ rfl (hown.alloc _) ⟨wr.heap.size,0,none⟩ 1 1 [.int .i64 (k:Int)] rfl rfl ?c1 ?c2 (by decide) ?c3 ?c4 ?c5 (wr.heap.size+1) (by simp) ?c6)
            case c1=>
             intro j2 z hz
             exact cell_one_new wr (.int .i64 (k:Int)) 3 j2 z hz
            case c2=>intro u hu;simp at hu;subst hu;rfl
            case c3=>unfold maxLen;omega
            case c4=>omega
            case c5=>simp;omega
            case c6=>
             intro g cap6 w6 ho hg hat hl6
             obtain⟨b,hb1,hb2⟩:=HX.out
             have hp:=HR.out.push (x:=(k:Int)) (Nat.le_refl k) hb1 hb2 ho hg
             have HP:=hid hp
             clear hp ho hg hat hl6 hown hcl
             go_wp2_with fail
             go_roundw
             case rel=>exact⟨k+1,_,by omega,by go_num,HP.out⟩
             case measure=>simp[intOf];omega
           ·have hpi:¬(0:Int)<((hN hold k:Nat):Int):=by omega
            have HP:=hid hR.next
            clear hR hp
            go_wp2_with fail
            go_roundw
            case rel=>exact⟨k+1,l,by omega,by go_num,HP.out⟩
            case measure=>simp[intOf];omega
          ·obtain rfl:k=n+1:=by omega
           obtain⟨a3,cap3,rfl,hrow⟩:=Row.of_owns hR.td
           have HSr:=hid (HS9.out.later hR.below)
           have HRe:=hid (reached_any HSr.out.1 HSr.out.2.1.li.san HSr.out.2.1.li.nam (by show n≤1000;omega) a3 cap3 l hrow (fun x hx=>by
            obtain⟨b,rfl,hb⟩:=hR.mem x hx
            obtain⟨t,ht,_⟩:=HSr.out.2.1.held hb
            exact⟨t,ht⟩) (by omega))
           have HMem:=hid hR.mem
           clear hR hrow
           go_wp2_with fail
           refine HRe.out.mono ?_
           rintro e w12 ⟨q2,m,rfl,hq2,hb2,hB2,hmk⟩
           have HBm:=hid hb2
           have HSm:Hid (MSt17 w0 p ⟨n,v,1,1⟩ D q2 m w12):=hid ⟨HSr.out.1.later hB2,hb2,HSr.out.1.notG hq2⟩
           have HAl:Hid (∀x,m x=true→NV D x):=hid (HEd.out l _ hmk HMem.out)
           clear hb2 hB2 hmk hq2
           go_wp2_with fail
           go_loopw [106] (fun i wr=>∃J:Nat,J≤n+1∧i=.int .i64 (J:Int)∧MSt17 w0 p ⟨n,v,1,1⟩ D q2 m wr) (fun i _=>n+1-(intOf i).toNat)
           case atStart=>exact⟨0,Nat.zero_le _,rfl,HSm.out⟩
           case round=>
            obtain⟨J,hJ,rfl,hS⟩:=hrel
            have HSx:=hid hS
            by_cases hlt:J<n+1
            ·have ci:=hS.2.1.arr hlt
             have hkl:(J:Int)<(n:Int)+1:=by omega
             cases hm:m (J:Int) with
             |false=>
              rw[hm] at ci
              clear hS hm
              go_wp2_with fail
              go_roundw
              case rel=>exact⟨J+1,by omega,by go_num,HSx.out⟩
              case measure=>simp[intOf];omega
             |true=>
              rw[hm] at ci
              have h64:In64 (J:Int):=by unfold In64;omega
              obtain⟨t,hf,hd,hcl⟩:=HAl.out _ hm
              have hdd:D.dead (J:Int)=t.mr.dead:=by unfold Wd.dead;rw[hf]
              have hbb:D.black (J:Int)=decide (t.mr.color=D.parity):=by unfold Wd.black;rw[hf]
              have HI:=hid ((gd_is (c:=⟨n,v,1,1⟩) (D:=D) h64).as (vb (show(D.find (J:Int)).isSome=true by rw[hf];rfl)) rfl)
              have HD:=hid ((tintFns.dead ⟨n,v,1,1⟩ D (J:Int) h64).as (vb (hdd.trans hd)) rfl)
              have HBl:=hid ((tintFns.black ⟨n,v,1,1⟩ D (J:Int) h64).as (vb (hbb.trans (decide_eq_true hcl))) rfl)
              clear hS hm hf hd hcl hdd hbb
              go_wp2_with fail
              refine(HSx.out.1.does HI.out).mono ?_
              rintro e w2 ⟨rfl,h2,hT⟩
              have HS2:Hid (MSt17 w0 p ⟨n,v,1,1⟩ D q2 m w2):=hid ⟨h2,HSx.out.2.1.touch hT (fun hx=>HSx.out.2.2 (Or.inr hx)),HSx.out.2.2⟩
              clear h2 hT
              go_wp2_with fail
              refine(HS2.out.1.does HD.out).mono ?_
              rintro e w2 ⟨rfl,h2,hT⟩
              have HS3:Hid (MSt17 w0 p ⟨n,v,1,1⟩ D q2 m w2):=hid ⟨h2,HS2.out.2.1.touch hT (fun hx=>HS2.out.2.2 (Or.inr hx)),HS2.out.2.2⟩
              clear h2 hT
              go_wp2_with fail
              refine(HS3.out.1.does HBl.out).mono ?_
              rintro e w2 ⟨rfl,h2,hT⟩
              have HS4:Hid (MSt17 w0 p ⟨n,v,1,1⟩ D q2 m w2):=hid ⟨h2,HS3.out.2.1.touch hT (fun hx=>HS3.out.2.2 (Or.inr hx)),HS3.out.2.2⟩
              clear h2 hT
              go_wp2_with fail
              go_roundw
              case rel=>exact⟨J+1,by omega,by go_num,HS4.out⟩
              case measure=>simp[intOf];omega
            ·have HBe9:=hid (below_step HB0.out hS.1.below)
             clear hS
             go_wp2_with fail
             refine(begun17_any _).mono ?_
             rintro e w13 ⟨rfl,hb⟩
             have HB13:=hid (below_step HBe9.out hb)
             clear hb
             go_wp2_with fail
             go_ret
             exact⟨rfl,HB13.out⟩
set_option maxHeartbeats 2000000 in
theorem pG(N V cr ck:Int)(a:Option Addr)(cap len:Nat)(w:World)(h:N<1∨40<N∨V<16∨18<V∨150<(len:Int)):
  Calls Tryz.prog 3 #[.agg #[.int .i64 N,.int .i64 V,.int .i64 cr,.int .i64 ck],.slice a len cap] w fun e w'=>e=.returned (.bool true)∧Below w.heap.size w w':=by
 by_cases g0:N<1
 ·clear h
  go_enter Tryz.func3,Tryz.ntmps3
  go_wp2_with fail
  refine(begun17_any _).mono ?_
  rintro e w9 ⟨rfl,hb⟩
  have HB9:=hid (below_step (below_new w (.cells #[.int .i64 N,.int .i64 V,.int .i64 cr,.int .i64 ck] 23)) hb)
  clear hb
  go_wp2_with fail
  go_ret
  exact⟨rfl,HB9.out⟩
 ·skip
  by_cases g1:40<N
  ·clear h
   go_enter Tryz.func3,Tryz.ntmps3
   go_wp2_with fail
   refine(begun17_any _).mono ?_
   rintro e w9 ⟨rfl,hb⟩
   have HB9:=hid (below_step (below_new w (.cells #[.int .i64 N,.int .i64 V,.int .i64 cr,.int .i64 ck] 23)) hb)
   clear hb
   go_wp2_with fail
   go_ret
   exact⟨rfl,HB9.out⟩
  ·skip
   by_cases g2:V<16
   ·clear h
    go_enter Tryz.func3,Tryz.ntmps3
    go_wp2_with fail
    refine(begun17_any _).mono ?_
    rintro e w9 ⟨rfl,hb⟩
    have HB9:=hid (below_step (below_new w (.cells #[.int .i64 N,.int .i64 V,.int .i64 cr,.int .i64 ck] 23)) hb)
    clear hb
    go_wp2_with fail
    go_ret
    exact⟨rfl,HB9.out⟩
   ·skip
    by_cases g3:18<V
    ·clear h
     go_enter Tryz.func3,Tryz.ntmps3
     go_wp2_with fail
     refine(begun17_any _).mono ?_
     rintro e w9 ⟨rfl,hb⟩
     have HB9:=hid (below_step (below_new w (.cells #[.int .i64 N,.int .i64 V,.int .i64 cr,.int .i64 ck] 23)) hb)
     clear hb
     go_wp2_with fail
     go_ret
     exact⟨rfl,HB9.out⟩
    ·skip
     have g4:150<(len:Int):=by omega
     clear h
     go_enter Tryz.func3,Tryz.ntmps3
     go_wp2_with fail
     refine(begun17_any _).mono ?_
     rintro e w9 ⟨rfl,hb⟩
     have HB9:=hid (below_step (below_new w (.cells #[.int .i64 N,.int .i64 V,.int .i64 cr,.int .i64 ck] 23)) hb)
     clear hb
     go_wp2_with fail
     go_ret
     exact⟨rfl,HB9.out⟩
theorem pF(N V cr ck:Int)(a:Option Addr)(cap:Nat)(rs:List (List Fld))(w:World)(hrs:Recs w a [.int .u8,.int .i64,.int .i64,.int .i64,.int .i64,.int .i64] rs):
  Calls Tryz.prog 3 #[.agg #[.int .i64 N,.int .i64 V,.int .i64 cr,.int .i64 ck],.slice a rs.length cap] w fun e w'=>e=.returned (.bool true)∧Below w.heap.size w w':=by
 by_cases h:N<1∨40<N∨V<16∨18<V∨150<(rs.length:Int)
 ·exact pG N V cr ck a cap _ w h
 ·have:=floodReaches_few N.toNat V.toNat cr ck a cap rs w (by omega) (by omega) (by omega) (by omega) (by omega) hrs
  rw[show(N.toNat:Int)=N by omega,show(V.toNat:Int)=V by omega] at this
  exact this
end Go.Proofs.YtofhdfjkhfkhiaaGreat.Pk
