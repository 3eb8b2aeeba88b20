/-
  Texts laid together: FloodRch, FloodAlb.
-/
import Derived.Test.YtofhdfjkhfkhiaaGreatFloodWEtc
import Derived.Test.YtofhdfjkhfkhiaaGreatGravGrownEtc
namespace Go.Proofs.YtofhdfjkhfkhiaaGreat.Pk
open Lib (hid)
open Go.RowKit
set_option linter.unusedVariables false
set_option linter.unusedSimpArgs false
set_option maxRecDepth 100000
def Ku(D:Wd)(R:Int→Prop):Prop:=∀x t,R x→D.find x=some t→∀i,i<t.pt.length→nth t.pt i≠0→R (nth t.pt i)
def MkR(D:Wd)(fl:List Int)(m:Int→Prop):Prop:=(∀x,x∈fl→m x)∧Ku D m∧∀R:Int→Prop,Ku D R→(∀x,x∈fl→R x)→∀x,m x→R x
theorem mY:∀(n:Nat) (l:List Int),l.Nodup→(∀x,x∈l→1≤x∧x≤(n:Int))→l.length≤n
 |0,l,_,h=>by
  cases l with
  |nil=>exact Nat.le_refl _
  |cons x l=>
   have:=h x (List.mem_cons_self ..)
   omega
 |n+1,l,hd,h=>by
  have hd2:(l.erase ((n+1:Nat):Int)).Nodup:=hd.erase _
  have ih:=mY n (l.erase ((n+1:Nat):Int)) hd2 (fun x hx=>by
   have h1:=h x (List.mem_of_mem_erase hx)
   have h2:x≠((n+1:Nat):Int):=fun e=>by
    rw[e] at hx
    exact(List.Nodup.not_mem_erase hd) hx
   omega)
  rw[List.length_erase] at ih
  split at ih<;>omega
theorem NA{w:World}{lo:Nat}{e:TypeId}{size m:Nat}{u:Value}{xs:List Value}(h:w.ownsRow lo e size u m xs):∀g,u.ownBlock=some g→g<w.heap.size:=by
 intro g' hg'
 rcases h.2 with⟨rfl,_⟩|⟨g,cap,cur,rfl,hb,hg,r⟩
 ·cases hg'
 ·simp[Value.ownBlock] at hg'
  subst hg'
  exact lt_of_block hg
structure Hm (w0:World) (c:Cf) (D:Wd) (fl:List Int) (q:Nat) (v:Value) (l:List Int) (wr:World):Prop where
 is:Blk wr q (arrV (fun i=>.bool (decide ((i:Int)∈l))) (c.N+1)) 4
 td:wr.ownsRow (q+1) 3 1 v l.length (l.map (Value.int .i64))
 below:Below w0.heap.size w0 wr
 q:w0.heap.size≤q
 nd:l.Nodup
 fd:∀x,x∈l→∃t,D.find x=some t
 all:∀R:Int→Prop,Ku D R→(∀x,x∈fl→R x)→∀x,x∈l→R x
section
variable {w0 wr w3:World} {c:Cf} {D:Wd} {fl l:List Int} {q j:Nat} {v v':Value} {x:Int} {hold:Nat→Nat} {p:Pl}
theorem Hm.mark(h:Hm w0 c D fl q v l wr)(hx:x=(j:Int)):Blk (wr.setCell ⟨q,j,none⟩ (.bool true)) q (arrV (fun i=>.bool (decide ((i:Int)∈l++[x]))) (c.N+1)) 4:=by
 have h1:=h.is.set j (.bool true)
 rw[arrV_set] at h1
 rw[arrV_congr (g:=fun i=>if i=j then Value.bool true else .bool (decide ((i:Int)∈l))) (fun i _=>by
  by_cases e:i=j
  ·rw[if_pos e,e,hx];simp
  ·rw[if_neg e]
   have:((i:Int)∈l++[x])↔((i:Int)∈l):=by
    rw[List.mem_append,List.mem_singleton,hx]
    exact⟨fun k=>k.elim id (fun k=>absurd k (by omega)),.inl⟩
   simp only[this])]
 exact h1
theorem Hm.Pn(h:Hm w0 c D fl q v l wr)(j:Nat):(wr.setCell ⟨q,j,none⟩ (.bool true)).ownsRow (q+1) 3 1 v l.length (l.map (Value.int .i64)):=
 bA h.td ((Touch.refl (fun b=>b=q) wr).setCell (p:=⟨q,j,none⟩) (fun _=>rfl) _) (fun g hg e=>by have:=owns_block h.td g hg;omega)
theorem Hm.push(h:Hm w0 c D fl q v l wr)(hx:x=(j:Int))(hn:x∉l)(hf:∃t,D.find x=some t)(hJ:∀R:Int→Prop,Ku D R→(∀x,x∈fl→R x)→(∀x,x∈l→R x)→R x)
  (ho:w3.ownsRow (q+1) 3 1 v' (l.length+1) (l.map (Value.int .i64)++[.int .i64 x])) (hg:((wr.setCell ⟨q,j,none⟩ (.bool true)).alloc (.cells #[.int .i64 x] 3)).grownBy w3 v.ownBlock):
  Hm w0 c D fl q v' (l++[x]) w3∧Touch (fun b=>b=q∨v.ownBlock=some b) wr w3:=by
 have hq:=owns_block h.td
 have T1:Touch (fun b=>v.ownBlock=some b) (wr.setCell ⟨q,j,none⟩ (.bool true)) w3:=(Touch.of_below (below_new _ _)).trans (mk_grown_touch hg)
 have T0:Touch (fun b=>b=q) wr (wr.setCell ⟨q,j,none⟩ (.bool true)):=(Touch.refl (fun b=>b=q) wr).setCell (p:=⟨q,j,none⟩) (fun _=>rfl) _
 have T:Touch (fun b=>b=q∨v.ownBlock=some b) wr w3:=(T0.mono (fun _ _ e=>.inl e)).trans (T1.mono (fun _ _ e=>.inr e))
 refine⟨⟨(h.mark hx).touch T1 (fun e=>by have:=hq q e;omega),?_,?_,h.q,?_,fun y hy=> ?_,fun R hC hR y hy=> ?_⟩,T⟩
 ·rw[List.length_append,List.map_append]
  exact ho
 ·exact h.below.trans (T.below (fun b hb=>by
   have:=h.q
   rcases hb with rfl|hb
   ·exact this
   ·have:=hq b hb
    omega) h.below.size)
 ·rw[List.nodup_append]
  refine⟨h.nd,by simp,fun a ha b hb e=> ?_⟩
  rw[List.mem_singleton] at hb
  exact hn (hb▸e▸ha)
 ·rw[List.mem_append,List.mem_singleton] at hy
  rcases hy with hy|rfl
  ·exact h.fd y hy
  ·exact hf
 ·rw[List.mem_append,List.mem_singleton] at hy
  rcases hy with hy|rfl
  ·exact h.all R hC hR y hy
  ·exact hJ R hC hR (h.all R hC hR)
theorem RSt.BI{t:Th}(h:RSt w0 p c D wr)(hf:D.find x=some t):∃j:Nat,x=(j:Int)∧1≤j∧j≤c.N:=by
 obtain⟨h1,h2⟩:=find_live hf
 obtain⟨zs,m,hG,hR,_⟩:=h
 have:=hR.hlt h1
 exact⟨t.h+1,by omega,by omega,by omega⟩
def OO(t:Th)(w:World)(e:Ending)(w':World):Prop:=
 ∃a1 c1 a2 n2 c2,e=.returned (.tuple #[.agg #[.slice a1 t.pt.length c1,.slice a2 n2 c2],.bool true])∧Row w' .i64 a1 t.pt∧(∀b off,a1=some ⟨b,off,none⟩→w.heap.size≤b∧b<w'.heap.size)∧Below w.heap.size w w'
theorem EK{t:Th}(S:San D)(hf:D.find x=some t)(h:RSt w0 p c D wr):Calls Tryz.prog 49 #[.pointer (some ⟨p.a,0,none⟩),.int .i64 x] wr (OO t wr):=by
 refine h.looks (f:=49) (args:=[.int .i64 x]) (Q:=OO t) (fun zs hz R=> ?_)
 obtain⟨htl,e⟩:=find_live hf
 have hl:=objFns.see_yes c zs D.clean D.obs t.ob hz R.heap (R.obMem htl)
 have e':((t.ob.h:Nat):Int)+1=x:=e
 rw[e'] at hl
 have hp:=LQ S hz R htl
 intro p m w hG
 refine(hl p m w hG).mono ?_
 rintro e w' ⟨a1,c1,a2,c2,rfl,r1,r2,f1,f2,f12,hb,e1,e2⟩
 rw[hp] at r1
 exact⟨a1,c1,a2,_,c2,rfl,r1.row,fun b off e=>⟨f1 b off e,e1 b off e⟩,hb⟩
theorem Dw(n:Nat)(hn:n≤2000)(w:World):(Instr.makeSlice 40 (.int .i64 (n:Int)) (.int .i64 (n:Int))).run Tryz.prog w=.ok (.slice (some ⟨w.heap.size,0,none⟩) n n) (w.alloc (.cells (arrV (fun _=>.bool false) n) 4)):=by
 obtain⟨i0,hi,hz0,hz1,hz2⟩:=info_parts Pb
 have:=run_make w 40 4 i0 (.bool false) Tryz.underlying40 hi hz0 .i64 .i64 (n:Int) (n:Int) (by omega) (Int.le_refl _) (by rw[hz2];omega) (by omega)
 rw[this,hz1,←made_arr _ rfl]
 simp
end
def Qj(w0:World)(c:Cf)(D:Wd)(fl:List Int)(e:Ending)(w':World):Prop:=
 ∃(q:Nat) (m:Int→Bool),e=.returned (.slice (some ⟨q,0,none⟩) (c.N+1) (c.N+1))∧w0.heap.size≤q∧Blk w' q (arrV (fun i=>.bool (m (i:Int))) (c.N+1)) 4∧Below w0.heap.size w0 w'∧MkR D fl (fun x=>m x=true)
def OG(D:Wd)(l:List Int)(x:Int):Prop:=∀t,D.find x=some t→∀i,i<t.pt.length→nth t.pt i≠0→nth t.pt i∈l
theorem OG.more{D:Wd}{l:List Int}{x:Int}(h:OG D l x)(m:List Int):OG D (l++m) x:=fun t ht i hi h0=>List.mem_append_left _ (h t ht i hi h0)
theorem zb{l:List Int}{k:Nat}(h:k<l.length):nth l k∈l:=by
 have:nth l k=l[k]:=by unfold nth;simp[List.getD,h]
 rw[this]
 exact List.getElem_mem h
theorem EW{l m:List Int}{k:Nat}(h:k<l.length):nth (l++m) k=nth l k:=by
 unfold nth
 simp[List.getD,List.getElem?_append_left h]
set_option maxHeartbeats 4000000 in
theorem reached_any{w w0:World}{p:Pl}{c:Cf}{D:Wd}{hold:Nat→Nat}(h:RSt w p c D w0)(S:San D)(N:Nam hold D)(hN:c.N≤1000)(a:Option Addr)(cap:Nat)(fl:List Int)(hr:Row w0 .i64 a fl)(hf:∀x,x∈fl→∃t,D.find x=some t)(hfl:fl.length≤1000):
  Calls Tryz.prog 14 #[.pointer (some ⟨p.a,0,none⟩),.slice a fl.length cap] w0 (Qj w0 c D fl):=by
 obtain⟨i0,hinf,hz0,hz1,hz2⟩:=info_parts infoInt
 have hfc:=dR (c.N:Int) (c.W:Int) (c.R:Int) (c.K:Int)
 have HS:=hid h
 have HRow:=hid hr
 have HF:=hid hf
 have HNm:=hid N
 have HSa:=hid S
 have hNN:=hN
 clear h hr hf N S
 go_enter Tryz.func14,Tryz.ntmps14
 go_wp2_with fail
 refine HS.out.OP.mono ?_
 rintro e w1 ⟨rfl,hb⟩
 have HB1:=hid hb
 clear hb
 have hmk:=Dw (c.N+1) (by omega) w1
 rw[show((c.N+1:Nat):Int)=(c.N:Int)+1 by omega] at hmk
 have hw1:IntKind.i64.wrap ((c.N:Int)+1)=(c.N:Int)+1:=IntWalk.i64_in _ (by omega)
 go_wp2_with fail
 have HR0:Hid (Hm w0 c D fl w1.heap.size (.slice none 0 0) [] (w1.alloc (.cells (arrV (fun _=>.bool false) (c.N+1)) 4))):=hid ⟨by
  have e:(fun i:Nat=>Value.bool (decide ((i:Int)∈([]:List Int))))=fun _=>.bool false:=funext (fun i=>by simp)
  rw[e]
  exact Blk.new _ _ _,World.ownsRow_nil _ _ _ _,below_step HB1.out (below_new _ _),HB1.out.size,List.nodup_nil,fun x hx=>absurd hx (List.not_mem_nil),fun R _ _ x hx=>absurd hx (List.not_mem_nil)⟩
 generalize w1.alloc (.cells (arrV (fun _=>.bool false) (c.N+1)) 4)=w2 at*
 generalize w1.heap.size=q at*
 clear hmk HB1 hfc hw1
 go_loopw [6,21] (fun tv i wr=>∃(k:Nat) (l:List Int),k≤fl.length∧i=.int .i64 (k:Int)∧Hm w0 c D fl q tv l wr∧∀j,j<k→nth fl j∈l) (fun _ i _=>fl.length-(intOf i).toNat)
 case atStart=>exact⟨0,[],Nat.zero_le _,rfl,HR0.out,fun j hj=>by omega⟩
 case round=>
  obtain⟨k,l,hk,rfl,hR,hl⟩:=hrel
  have HR:=hid hR
  have HL:=hid hl
  have hll:l.length≤c.N:=mY _ _ hR.nd (fun x hx=>by
   obtain⟨t,ht⟩:=hR.fd x hx
   obtain⟨j,rfl,h1,h2⟩:=HS.out.BI ht
   omega)
  by_cases hlt:k<fl.length
  ·obtain⟨b,off,rfl,hb,hc⟩:=HRow.out k hlt
   have hc':=(hR.below.cell (p:=⟨b,off+k,none⟩) hb).trans hc
   have hx:=zb hlt
   obtain⟨t,ht⟩:=HF.out _ hx
   obtain⟨j,hj,hj1,hjN⟩:=HS.out.BI ht
   have hjl:j<c.N+1:=by omega
   rw[hj] at hc'
   have ci:=hR.is.arr hjl
   have fi:=hR.is.free j
   have hqz:=hR.is.lt
   by_cases hin:(j:Int)∈l
   ·rw[decide_eq_true hin] at ci
    have HL2:Hid (∀i,i<k+1→nth fl i∈l):=hid (fun i hi=>by
     by_cases e:i=k
     ·rw[e,hj];exact hin
     ·exact HL.out i (by omega))
    clear hR hl hx ht hj hin
    go_wp2_with fail
    go_roundw
    case rel=>exact⟨k+1,l,by omega,by go_num,HR.out,HL2.out⟩
    case measure=>simp[intOf];omega
   ·rw[decide_eq_false hin] at ci
    have HX:Hid ((j:Int)∉l∧nth fl k=(j:Int)∧∃t,D.find (j:Int)=some t):=hid ⟨hin,hj,t,hj▸ht⟩
    have hown:=hR.Pn j
    have hqo:=hR.q
    have HFb:=hid hx
    clear hR hl hx ht hj hin
    go_wp2_with (at_builtin;refine wpList_append_lies _ rfl _ _ 30 rfl (q+1) 3 i0 (.int .i64 0) 1 8 Tryz.underlying30 hinf hz0 hz1 hz2 rfl (by decide) _ _ _ rfl (hown.alloc _) ⟨wr.heap.size,0,none⟩ 1 1 [.int .i64 (j:Int)] rfl rfl ?c1 ?c2 (by decide) ?c3 ?c4 ?c5 (wr.heap.size+1) (by simp) ?c6)
    case c1=>
     intro j2 z hz
     have:=cell_one_new (wr.setCell ⟨q,j,none⟩ (.bool true)) (.int .i64 (j:Int)) 3 j2 z hz
     rwa[show(wr.setCell ⟨q,j,none⟩ (.bool true)).heap.size=wr.heap.size by simp] at this
    case c2=>intro u hu;simp at hu;subst hu;rfl
    case c3=>unfold maxLen;omega
    case c4=>omega
    case c5=>simp;omega
    case c6=>
     intro g cap6 w6 ho hg hat hl6
     have hp:=(HR.out.push (x:=(j:Int)) rfl HX.out.1 HX.out.2.2 (fun R _ hR _=>HX.out.2.1▸hR _ HFb.out) ho hg).1
     have HP:=hid hp
     have HL2:Hid (∀i,i<k+1→nth fl i∈l++[(j:Int)]):=hid (fun i hi=>by
      rw[List.mem_append,List.mem_singleton]
      by_cases e:i=k
      ·rw[e];exact .inr HX.out.2.1
      ·exact .inl (HL.out i (by omega)))
     clear hp ho hg hat hl6 hown ci fi
     go_wp2_with fail
     go_roundw
     case rel=>exact⟨k+1,_,by omega,by go_num,HP.out,HL2.out⟩
     case measure=>simp[intOf];omega
  ·obtain rfl:k=fl.length:=by omega
   clear hR hl hll
   have HFl:Hid (∀x,x∈fl→x∈l):=hid (fun x hx=>by
    obtain⟨i,hi,e⟩:=List.getElem_of_mem hx
    have h1:=HL.out i hi
    have:nth fl i=x:=by rw[←e];unfold nth;simp[List.getD,hi]
    rw[←this];exact h1)
   go_wp2_with fail
   go_loopw [6,9] (fun tv i wr=>∃(k:Nat) (l:List Int),k≤l.length∧i=.int .i64 (k:Int)∧Hm w0 c D fl q tv l wr∧(∀x,x∈fl→x∈l)∧∀j,j<k→OG D l (nth l j)) (fun _ i _=>c.N+1-(intOf i).toNat)
   case atStart=>exact⟨0,l,Nat.zero_le _,rfl,HR.out,HFl.out,fun j hj=>by omega⟩
   case round=>
    obtain⟨k,l2,hk,rfl,hR,hin,hdn⟩:=hrel
    have HR2:=hid hR
    have HIn:=hid hin
    have HDn:=hid hdn
    have hll:l2.length≤c.N:=mY _ _ hR.nd (fun x hx=>by
     obtain⟨t,ht⟩:=hR.fd x hx
     obtain⟨j,rfl,h1,h2⟩:=HS.out.BI ht
     omega)
    obtain⟨⟨o2,cap2,rfl⟩,_⟩:=nQ hR.td
    by_cases hlt:k<l2.length
    ·obtain⟨g2,cap3,hv2,hc2,_⟩:=zl hR.td (k:=k) (y:=.int .i64 (nth l2 k)) (by rw[List.getElem?_map];unfold nth;simp[List.getD,hlt])
     obtain⟨rfl,rfl⟩:o2=some ⟨g2,0,none⟩∧cap2=cap3:=by
      injection hv2 with e1 _ e2
      exact⟨e1,e2⟩
     obtain⟨t,ht⟩:=hR.fd _ (zb hlt)
     have HSe:=hid (EK HSa.out ht (HS.out.later hR.below))
     have HT:=hid ht
     have HPl:=hid ((HS.out.sizes) t (find_live ht).1)
     generalize hxk:nth l2 k=x at*
     have HXk:=hid hxk
     clear hR hin hdn hxk ht hv2
     go_wp2_with fail
     refine HSe.out.mono ?_
     rintro e w4 ⟨a1,c1,a2,n2,c2,rfl,r1,f1,hb4⟩
     have HB4:=hid hb4
     have hbx:=Blk.new w4 #[.slice a1 t.pt.length c1,.slice a2 n2 c2] 76
     have q0:=hbx.cell 0 rfl
     have q1:=hbx.cell 1 rfl
     have HRp:=hid (r1.later (below_new w4 (.cells #[.slice a1 t.pt.length c1,.slice a2 n2 c2] 76)))
     have HF1:Hid (∀b off,a1=some ⟨b,off,none⟩→q<b∧b≠g2∧b<(w4.alloc (.cells #[.slice a1 t.pt.length c1,.slice a2 n2 c2] 76)).heap.size):=hid (fun b off e=>by
      have h1:=f1 b off e
      have h2:=HR2.out.is.lt
      have h3:=NA HR2.out.td g2 rfl
      simp
      omega)
     have hb5:=below_step hb4 (below_new w4 (.cells #[.slice a1 t.pt.length c1,.slice a2 n2 c2] 76))
     have HR5:Hid (Hm w0 c D fl q (.slice (some ⟨g2,0,none⟩) l2.length cap2) l2 (w4.alloc (.cells #[.slice a1 t.pt.length c1,.slice a2 n2 c2] 76))):=hid ⟨HR2.out.is.later hb5,df HR2.out.td hb5,below_step HR2.out.below hb5,HR2.out.q,HR2.out.nd,HR2.out.fd,HR2.out.all⟩
     clear hb4 hbx r1 f1 hb5 hc2
     have hpl:=HPl.out
     go_wp2_with fail
     generalize hw5:w4.alloc _=w5 at*
     clear hw5 q0 q1
     go_loopw [6,58] (fun tv i wr=>∃(j:Nat) (m:List Int),j≤t.pt.length∧i=.int .i64 (j:Int)∧Hm w0 c D fl q tv (l2++m) wr∧Row wr .i64 a1 t.pt∧(∀b off,a1=some ⟨b,off,none⟩→q<b∧tv.ownBlock≠some b∧b<wr.heap.size)∧∀i,i<j→nth t.pt i≠0→nth t.pt i∈l2++m) (fun _ i _=>t.pt.length-(intOf i).toNat)
     case atStart=>exact⟨0,[],Nat.zero_le _,rfl,by rw[List.append_nil];exact HR5.out,HRp.out,fun b off e=>by
      obtain⟨k1,k2,k3⟩:=HF1.out b off e
      exact⟨k1,fun e2=>k2 (Option.some.inj e2).symm,k3⟩,fun i hi=>by omega⟩
     case round=>
      obtain⟨j,m,hj,rfl,hR,hrw,hfr,hdn⟩:=hrel
      have HR6:=hid hR
      have HDn6:=hid hdn
      have HFr:=hid hfr
      have HRw:=hid hrw
      have hll2:(l2++m).length≤c.N:=mY _ _ hR.nd (fun x hx=>by
       obtain⟨t,ht⟩:=hR.fd x hx
       obtain⟨j,rfl,h1,h2⟩:=HS.out.BI ht
       omega)
      by_cases hlt3:j<t.pt.length
      ·obtain⟨bp,op,rfl,hbp,hcp⟩:=hrw j hlt3
       rcases HNm.out.good t (find_live HT.out).1 j hlt3 with h0|⟨u,hu,hue⟩
       ·rw[h0] at hcp
        have HDn7:Hid (∀i,i<j+1→nth t.pt i≠0→nth t.pt i∈l2++m):=hid (fun i hi hn=>by
         by_cases e:i=j
         ·rw[e] at hn;exact absurd h0 hn
         ·exact HDn6.out i (by omega) hn)
        clear hR hrw hfr hdn h0
        go_wp2_with fail
        go_roundw
        case rel=>exact⟨j+1,m,by omega,by go_num,HR6.out,HRw.out,HFr.out,HDn7.out⟩
        case measure=>simp[intOf];omega
       ·have hfu:D.find (nth t.pt j)=some u:=by rw[←hue];exact HSa.out.findIt hu
        obtain⟨y,hy,hy1,hyN⟩:=HS.out.BI hfu
        have hyl:y<c.N+1:=by omega
        have hy0:(0:Int)<(y:Int):=by omega
        rw[hy] at hcp
        have ci:=hR.is.arr hyl
        have fi:=hR.is.free y
        have hqz:=hR.is.lt
        by_cases hin:(y:Int)∈l2++m
        ·rw[decide_eq_true hin] at ci
         have HDn7:Hid (∀i,i<j+1→nth t.pt i≠0→nth t.pt i∈l2++m):=hid (fun i hi hn=>by
          by_cases e:i=j
          ·rw[e,hy];exact hin
          ·exact HDn6.out i (by omega) hn)
         clear hR hrw hfr hdn hfu hy hin hue hu
         go_wp2_with fail
         go_roundw
         case rel=>exact⟨j+1,m,by omega,by go_num,HR6.out,HRw.out,HFr.out,HDn7.out⟩
         case measure=>simp[intOf];omega
        ·rw[decide_eq_false hin] at ci
         obtain⟨l3,hl3⟩:∃l3,l3=l2++m:=⟨_,rfl⟩
         have hR3:=hR
         rw[←hl3] at hR3
         have hll3:l3.length≤c.N:=by rw[hl3];exact hll2
         have HX:Hid ((y:Int)∉l3∧nth t.pt j=(y:Int)∧∃t,D.find (y:Int)=some t):=hid ⟨by rw[hl3];exact hin,hy,u,hy▸hfu⟩
         have hown:=hR3.Pn y
         have hxl:x∈l2:=HXk.out▸zb hlt
         have HJ:Hid (∀R:Int→Prop,Ku D R→(∀z,z∈fl→R z)→(∀z,z∈l3→R z)→R (y:Int)):=hid (fun R hC _ hl=>by
          have:=hC x t (hl x (by rw[hl3];exact List.mem_append_left _ hxl)) HT.out j hlt3 (by omega)
          rw[hy] at this
          exact this)
         have HR63:=hid hR3
         have HL3:=hid hl3
         clear hR hrw hfr hdn hfu hy hin hue hu hxl hR3 hl3 hll2
         go_wp2_with (at_builtin;refine wpList_append_lies _ rfl _ _ 30 rfl (q+1) 3 i0 (.int .i64 0) 1 8 Tryz.underlying30 hinf hz0 hz1 hz2 rfl (by decide) _ _ _ rfl (hown.alloc _) ⟨wr.heap.size,0,none⟩ 1 1 [.int .i64 (y:Int)] rfl rfl ?c1 ?c2 (by decide) ?c3 ?c4 ?c5 (wr.heap.size+1) (by simp) ?c6)
         case c1=>
          intro j2 z hz
          have:=cell_one_new (wr.setCell ⟨q,y,none⟩ (.bool true)) (.int .i64 (y:Int)) 3 j2 z hz
          rwa[show(wr.setCell ⟨q,y,none⟩ (.bool true)).heap.size=wr.heap.size by simp] at this
         case c2=>intro z hz;simp at hz;subst hz;rfl
         case c3=>unfold maxLen;omega
         case c4=>omega
         case c5=>simp;omega
         case c6=>
          intro g cap6 w6 ho hg hat hl6
          obtain⟨hp,hT⟩:=HR63.out.push (x:=(y:Int)) rfl HX.out.1 HX.out.2.2 HJ.out ho hg
          rw[show l3++[(y:Int)]=l2++(m++[(y:Int)]) by rw[HL3.out,List.append_assoc]] at hp
          have HP:=hid hp
          have HRw7:Hid (Row w6 .i64 (some ⟨bp,op,none⟩) t.pt):=hid (HRw.out.touch hT (fun _ b off e hx=>by
           obtain⟨k1,k2,k3⟩:=HFr.out b off e
           rcases hx with hx|hx
           ·omega
           ·exact k2 hx))
          have HFr7:Hid (∀b off,(some ⟨bp,op,none⟩:Option Addr)=some ⟨b,off,none⟩→q<b∧(Value.slice (some ⟨g,0,none⟩) (l3.length+1) cap6).ownBlock≠some b∧b<w6.heap.size):=hid (fun b off e=>by
           obtain⟨k1,k2,k3⟩:=HFr.out b off e
           refine⟨k1,fun e2=> ?_,Nat.lt_of_lt_of_le k3 hT.size⟩
           have e3:g=b:=Option.some.inj e2
           rcases hat with e4|e4
           ·exact k2 (e3▸e4)
           ·have e5:g=wr.heap.size+1:=by first|exact e4|(rw[e4];simp)
            omega)
          have HDn7:Hid (∀i,i<j+1→nth t.pt i≠0→nth t.pt i∈l2++(m++[(y:Int)])):=hid (fun i hi hn=>by
           rw[←List.append_assoc,List.mem_append,List.mem_singleton]
           by_cases e:i=j
           ·rw[e];exact .inr HX.out.2.1
           ·exact .inl (HDn6.out i (by omega) hn))
          clear hp hT ho hg hat hl6 hown ci fi hcp
          go_wp2_with fail
          go_roundw
          case rel=>exact⟨j+1,m++[(y:Int)],by omega,by go_num,HP.out,HRw7.out,HFr7.out,HDn7.out⟩
          case measure=>simp[intOf];omega
      ·obtain rfl:j=t.pt.length:=by omega
       have HEnd:Hid (k+1≤(l2++m).length∧(∀x,x∈fl→x∈l2++m)∧∀i,i<k+1→OG D (l2++m) (nth (l2++m) i)):=hid ⟨by rw[List.length_append];omega,fun x hx=>List.mem_append_left _ (HIn.out x hx),fun i hi=>by
        by_cases e:i=k
        ·rw[e,EW hlt,HXk.out]
         intro t2 ht2 i2 hi2 hn2
         rw[HT.out] at ht2
         cases ht2
         exact HDn6.out i2 hi2 hn2
        ·rw[EW (by omega)]
         exact(HDn.out i (by omega)).more m⟩
       clear hR hrw hfr hdn
       go_wp2_with fail
       go_roundw
       case rel=>exact⟨k+1,l2++m,HEnd.out.1,by go_num,HR6.out,HEnd.out.2.1,HEnd.out.2.2⟩
       case measure=>simp[intOf];omega
    ·obtain rfl:k=l2.length:=by omega
     have HMk:Hid (MkR D fl (fun x=>decide (x∈l2)=true)):=hid ⟨fun x hx=>decide_eq_true (HIn.out x hx),fun x t hx ht i hi hn=>decide_eq_true (by
      have hx:=of_decide_eq_true hx
      obtain⟨b,hb,e⟩:=List.getElem_of_mem hx
      have:nth l2 b=x:=by rw[←e];unfold nth;simp[List.getD,hb]
      exact HDn.out b hb t (this.symm▸ht) i hi hn),fun R hC hR x hx=>HR2.out.all R hC hR x (of_decide_eq_true hx)⟩
     clear hR hin hdn
     go_wp2_with fail
     go_ret
     exact⟨q,fun x=>decide (x∈l2),rfl,HR2.out.q,HR2.out.is,HR2.out.below,HMk.out⟩
def AlB(D:Wd)(x:Int):Prop:=∃t,D.find x=some t∧t.mr.dead=false∧t.mr.color=D.parity
def Out(hold:Nat→Nat)(D:Wd):Prop:=∀h:Nat,(∀t,t∈D.live→t.h≠h)→hold h=0
theorem ul{y:Int}:∀{l:List Int} {i:Nat},i<l.length→nth l i=y→0<bB y l
 |[],i,h,_=>by simp at h
 |a::l,0,_,h=>by
  have e:a=y:=h
  unfold bB
  rw[if_pos e]
  omega
 |a::l,i+1,h,e=>by
  have:=ul (l:=l) (i:=i) (by simpa using h) e
  unfold bB
  omega
section
variable {D D':Wd} {t u:Th} {hold:Nat→Nat} {l fl:List Int}
theorem held_of(S:San D)(N:Nam hold D)(O:Out hold D){b:Nat}(h:0<hold b):∃t,D.find ((b:Int)+1)=some t∧t.mr.dead=false∧t∈D.live∧t.h=b:=by
 have h1:∃t,t∈D.live∧t.h=b:=by
  refine Classical.byContradiction fun hn=> ?_
  have:=O b (fun t ht e=>hn ⟨t,ht,e⟩)
  omega
 obtain⟨t,ht,rfl⟩:=h1
 refine⟨t,S.findIt ht,?_,ht,rfl⟩
 cases hd:t.mr.dead with
 |false=>rfl
 |true=>
  have h2:=N.zer t ht hd
  have h3:=N.cnt t ht
  omega
theorem Jt(S:San D)(N:Nam hold D)(ht:t∈D.live){i:Nat}(hi:i<t.pt.length)(hn:nth t.pt i≠0):∃u,D.find (nth t.pt i)=some u∧u.mr.dead=false∧u∈D.live∧(u.h:Int)+1=nth t.pt i:=by
 rcases N.good t ht i hi with h|⟨u,hu,he⟩
 ·exact absurd h hn
 ·refine⟨u,by rw[←he];exact S.findIt hu,?_,hu,he⟩
  cases hd:u.mr.dead with
  |false=>rfl
  |true=>
   have h2:=N.zer u hu hd
   have h3:=N.cnt u hu
   have h4:dP ((u.h:Int)+1) t≤sumL (dP ((u.h:Int)+1)) D.ts:=qw (φ:=dP ((u.h:Int)+1)) ht
   have h5:0<dP ((u.h:Int)+1) t:=ul hi he.symm
   omega
theorem alb_of{N:Nat}(S:San D)(Nm:Nam hold D)(T:FM hold D)(O:Out hold D)(h1:D.phase=2)(hn:D.n=N)(hb:D.floodB=false)(hlt:∀t,t∈D.live→t.h<N)(m:Int→Prop)(hm:MkR D fl m)(hf:∀x,x∈fl→∃b:Nat,x=(b:Int)+1∧0<hold b):∀x,m x→AlB D x:=by
 obtain⟨e1,e2⟩:=T.IK h1 hn hb hlt
 refine hm.2.2 (AlB D) ?_ ?_
 ·rintro x t ⟨t',ht',hd,hc⟩ ht i hi hi0
  rw[ht] at ht'
  cases ht'
  obtain⟨htl,_⟩:=find_live ht
  obtain⟨u,hu,hud,hul,hue⟩:=Jt S Nm htl hi hi0
  rcases e2 t htl hd hc i hi u hul hue with h|h
  ·rw[hud] at h
   cases h
  ·exact⟨u,hu,hud,h⟩
 ·intro x hx
  obtain⟨b,rfl,hb⟩:=hf x hx
  obtain⟨t,ht,hd,htl,rfl⟩:=held_of S Nm O hb
  exact⟨t,ht,hd,e1 t htl hd hb⟩
end
end Go.Proofs.YtofhdfjkhfkhiaaGreat.Pk
