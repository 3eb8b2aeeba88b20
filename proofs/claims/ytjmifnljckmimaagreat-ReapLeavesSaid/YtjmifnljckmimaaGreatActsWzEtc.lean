/-
  Texts laid together: ActsWz, GravW, GraveFn, GraveFn2, GravSan, GraveDo, GraveStep.
-/
import Derived.Test.YtjmifnljckmimaaGreatTintFn4Etc
import Derived.Test.YtjmifnljckmimaaGreatObjFn4Etc
import Derived.Lib.MinMax
namespace Go.Proofs.YtjmifnljckmimaaGreat.Pk
open Lib (hid)
open Go.RowKit
set_option linter.unusedVariables false
set_option linter.unusedSimpArgs false
set_option maxRecDepth 100000
theorem World.size_alloc(w:World)(o:Obj):(w.alloc o).heap.size=w.heap.size+1:=by simp
theorem Bu{c:Cf}{zs:List Int}(hz:Wz c zs):∃(p:Pl) (w:World),G w p c ⟨zs,0⟩:=by
 refine⟨⟨(default:World).heap.size,(default:World).heap.size+1,(default:World).heap.size+2⟩,(((default:World).alloc (.cells #[.pointer (some ⟨(default:World).heap.size+1,0,none⟩),.int .i64 (c.N:Int),.int .i64 (c.W:Int),.int .i64 (c.R:Int),.int .i64 (c.K:Int)] 82)).alloc (.cells #[.slice (some ⟨(default:World).heap.size+2,0,none⟩) zs.length zs.length,.int .u64 (u64m 0)] 135)).alloc (.cells (words zs) 119),?_⟩
 refine⟨((Blk.new _ _ _).alloc _).alloc _,⟨?_,?_,?_⟩,hz.len,?_,?_,hz.may,hz.wf⟩
 ·have:=Blk.new ((default:World).alloc (.cells #[.pointer (some ⟨(default:World).heap.size+1,0,none⟩),.int .i64 (c.N:Int),.int .i64 (c.W:Int),.int .i64 (c.R:Int),.int .i64 (c.K:Int)] 82)) #[.slice (some ⟨(default:World).heap.size+2,0,none⟩) zs.length zs.length,.int .u64 (u64m 0)] 135
  rw[World.size_alloc] at this
  exact this.alloc _
 ·have:=Blk.new (((default:World).alloc (.cells #[.pointer (some ⟨(default:World).heap.size+1,0,none⟩),.int .i64 (c.N:Int),.int .i64 (c.W:Int),.int .i64 (c.R:Int),.int .i64 (c.K:Int)] 82)).alloc (.cells #[.slice (some ⟨(default:World).heap.size+2,0,none⟩) zs.length zs.length,.int .u64 (u64m 0)] 135)) (words zs) 119
  rw[World.size_alloc,World.size_alloc] at this
  exact this
 ·show(default:World).heap.size+1≠(default:World).heap.size+2
  omega
 ·show(default:World).heap.size≠(default:World).heap.size+1
  omega
 ·show(default:World).heap.size≠(default:World).heap.size+2
  omega
theorem gY.wz{c:Cf}{f:FuncId}{args:List Value}{zs zs':List Int}{B:Nat}{v:Value}(hz:Wz c zs)(h:gY c f args zs B zs' v):Wz c zs':=by
 obtain⟨p,w,hG⟩:=Bu hz
 obtain⟨d,_,H⟩:=h
 obtain⟨e,w',fr,⟨_,hG',_⟩,_⟩:=H p 0 w hG []
 exact hG'.wz
theorem Does.at{c:Cf}{D D':Wd}{f:FuncId}{args:List Value}{B:Nat}{v:Value}(h:Does c D f args B D' v){zs:List Int}(hz:Wz c zs)(R:av c zs D):∃zs',gY c f args zs B zs' v∧av c zs' D'∧Wz c zs':=by
 obtain⟨zs',A,R'⟩:=h zs hz R
 exact⟨zs',A,R',A.wz hz⟩
section
variable (D:Wd) (r:Int)
def Wd.lay(t:Th):Wd:=
 {(({(D.kill r).lessRing t.h with scan:=if D.scan=r then 0 else D.scan}:Wd).mark r (fun m=>{m with left:=(t.pt.length:Int)})).mark r (fun m=>{m with leaves:=(t.lv.length:Int)}) with
  grave:=D.grave++[t.h+1],pending:=D.pending+(1+(t.lv.length:Int))}
def Wd.buryB:Bool:=match D.find r with|none=>false|some t=> !t.mr.dead
def Wd.bury:Wd:=match D.find r with|none=>D|some t=>if t.mr.dead then D else D.lay r t
def Wd.KO:Bool:=decide (D.cnt r=0)&&D.buryB r
def Wd.inter:Wd:=if D.cnt r=0 then D.bury r else D
def Wd.drain(i:Nat)(x:Int):Wd:=
 if(D.setP r i 0).cnt x=0 then D.setP r i 0
 else let D2:=if(D.setP r i 0).counted r i then(D.setP r i 0).aC x else D.setP r i 0
  if(D2.down x).cnt x=0 then(D2.down x).bury x else D2.down x
def Wd.ahead(l:Int):Int:=(if 0<l then l-1 else 0)*((D.w:Int)-1)
def Wd.work(g:Nat)(rest:List Nat)(t:Th):Wd:=
 if D.ahead t.mr.leaves<t.mr.left then(D.drain g (t.mr.left-1).toNat (nth t.pt (t.mr.left-1).toNat)).mark g (fun m=>{m with left:=t.mr.left-1})
 else if 0<t.mr.leaves then {(D.fM g (t.mr.leaves-1).toNat (nth t.lv (t.mr.leaves-1).toNat).toNat).mark g (fun m=>{m with leaves:=t.mr.leaves-1}) with pending:=D.pending-1}
 else {({D with grave:=rest}:Wd).gJ g t.h with pending:=D.pending-1}
def Wd.step:Wd:=match D.grave with
 |[]=>D
 |g::rest=>match D.find (g:Int) with|none=>D|some t=>D.work g rest t
def Wd.gives:Bool:=match D.grave with
 |[]=>false
 |g::_=>match D.find (g:Int) with|none=>false|some t=> !decide (D.ahead t.mr.leaves<t.mr.left)
end
structure Ru (w:Nat) (t:Th):Prop where
 l0:0≤t.mr.leaves
 l1:t.mr.leaves≤(t.lv.length:Int)
 f0:0≤t.mr.left
 f1:t.mr.left≤(t.pt.length:Int)
 fl:t.lv≠[]→t.mr.left≤t.mr.leaves*((w:Int)-1)
 there:∀j:Nat,(j:Int)<t.mr.leaves→∃b:Nat,t.lv[j]? =some (b:Int)
 gone:∀j:Nat,t.mr.leaves≤(j:Int)→j<t.lv.length→t.lv[j]? =some (-1)
 zero:∀i:Nat,t.mr.left≤(i:Int)→nth t.pt i=0
structure Geo (w:Nat) (t:Th):Prop where
 small:t.pt.length+t.dt.length≤w-8→t.lv=[]
 big:¬t.pt.length+t.dt.length≤w-8→t.lv≠[]∧t.pt.length+t.dt.length≤t.lv.length*(w-1)
def RD(t:Th):Prop:=∀j:Nat,j<t.lv.length→∃b:Nat,t.lv[j]? =some (b:Int)
structure QG (w:Nat) (gr:List Nat) (t:Th):Prop where
 ql:Geo w t
 iff_:t.mr.dead=true↔t.h+1∈gr
 dead:t.mr.dead=true→Ru w t
 alive:t.mr.dead=false→RD t
def bT(t:Th):Nat:=if t.mr.dead then 1+t.mr.leaves.toNat else 0
def occT(t:Th):Nat:=if t.mr.dead then 1+t.mr.leaves.toNat else 1+t.lv.length
def au(φ:Th→Nat)(l:List Th):Nat:=((aM l).map φ).sum
structure San (D:Wd):Prop where
 w:16≤D.w
 nd:(D.live.map Th.h).Nodup
 gd:D.grave.Nodup
 gv:∀g,g∈D.grave→∃t,t∈D.live∧t.h+1=g
 ok:∀t,t∈D.live→QG D.w D.grave t
 ring:∀t,t∈D.live→t.h∈D.ring→t.mr.dead=false
 pend:D.pending=(au bT D.ts:Int)
section
variable {r:Int} {t:Th} {g:Th→Th} {φ:Th→Nat}
theorem aV(u:Th)(l:List Th):au φ (u::l)=(if u.ended then 0 else φ u)+au φ l:=by
 unfold au
 rw[az]
 cases u.ended<;>simp
theorem fG:∀{l:List Th},aP r l=some t→(g t).ended=false→au φ (bz r g l)+φ t=au φ l+φ (g t)
 |[],h,_=>by simp[aP] at h
 |u::l,h,hg=>by
  unfold aP at h
  unfold bz
  cases hu:u.at r with
  |true=>
   rw[hu] at h
   simp at h
   subst h
   have hue:u.ended=false:=by unfold Th.at at hu;simp at hu;exact hu.1
   rw[if_pos rfl,aV,aV,hg,hue]
   simp
   omega
  |false=>
   rw[hu] at h
   simp at h
   have:=fG h hg
   rw[if_neg (by simp),aV,aV]
   omega
theorem ry:∀{l:List Th},aP r l=some t→(g t).ended=true→au φ (bz r g l)+φ t=au φ l
 |[],h,_=>by simp[aP] at h
 |u::l,h,hg=>by
  unfold aP at h
  unfold bz
  cases hu:u.at r with
  |true=>
   rw[hu] at h
   simp at h
   subst h
   have hue:u.ended=false:=by unfold Th.at at hu;simp at hu;exact hu.1
   rw[if_pos rfl,aV,aV,hg,hue]
   simp
   omega
  |false=>
   rw[hu] at h
   simp at h
   have:=ry h hg
   rw[if_neg (by simp),aV,aV]
   omega
theorem uP{ψ:Th→Nat}{l:List Th}(h:∀t,t∈aM l→φ t≤ψ t):au φ l≤au ψ l:=by
 induction l with
 |nil=>simp[au,aM]
 |cons u l ih=>
  rw[aV,aV]
  have:=ih (fun t ht=>h t (by rw[az];split;exact ht;exact List.mem_cons_of_mem _ ht))
  cases hu:u.ended with
  |true=>simp;omega
  |false=>
   have h2:=h u (by rw[az,hu];simp)
   simp
   omega
theorem dU{ψ:Th→Nat}{l:List Th}(h:∀t,t∈aM l→φ t=ψ t):au φ l=au ψ l:=
 Nat.le_antisymm (uP (fun t ht=>Nat.le_of_eq (h t ht))) (uP (fun t ht=>Nat.le_of_eq (h t ht).symm))
theorem rz{l:List Th}(h:t∈aM l):φ t≤au φ l:=by
 induction l with
 |nil=>simp[aM] at h
 |cons u l ih=>
  rw[az] at h
  rw[aV]
  cases hu:u.ended with
  |true=>rw[hu] at h;simp at h ⊢;exact ih h
  |false=>
   rw[hu] at h
   simp at h ⊢
   rcases h with rfl|h
   ·omega
   ·have:=ih h;omega
end
abbrev Run(c:Cf)(f:FuncId)(args:List Value)(zs:List Int)(d:Nat)(zs':List Int)(v:Value):Prop:=
 ∀(p:Pl) (m:Nat) (w:World),G w p c ⟨zs,m⟩→Calls Tryz.prog f (List.toArray (.pointer (some ⟨p.a,0,none⟩)::args)) w (GP w p c ⟨zs',m+d⟩ v)
section
variable {c:Cf} {zs zs1 zs2 zs3:List Int} {d1 d2 d3 d4:Nat}
theorem vG{r:Int}(C1:Run c 134 [.int .i64 r] zs d1 zs1 (.bool false)):Run c 75 [.int .i64 r] zs d1 zs1 (.bool false):=fun p m w hG=>by
 have HG:=hid hG
 have HC:=hid C1
 clear hG C1
 go_enter Tryz.func75,Tryz.ntmps75
 have HT0:Hid (Touch (inG p) w w):=hid (Touch.refl _ _)
 go_wp2_with fail
 refine(HC.out p _ _ HG.out).mono ?_
 rintro e wm1 ⟨rfl,hG,hT⟩
 have HG1:=hid hG
 have HT1:Hid (Touch (inG p) _ wm1):=hid (HT0.out.trans hT)
 clear hG hT
 go_wp2_with fail
 go_ret
 exact⟨rfl,HG1.out,HT1.out⟩
set_option maxHeartbeats 1000000 in
theorem zT{h np nd L:Nat}{b2:Bool}{P:Int}(hm:c.May)(hh:h<c.N)(C1:Run c 134 [.int .i64 ((h:Int)+1)] zs d1 zs1 (.bool true))(C2:Run c 135 [.int .i64 (h:Int)] zs1 d2 zs2 (.bool b2))
  (h14:nth zs2 14=(h:Int)+1) (C3:Run c 110 [.int .i64 ((h:Int)+1)] (zs2.set 14 0) d3 (zs2.set 14 0) (.tuple #[.int .i64 (np:Int),.int .i64 (nd:Int),.int .i64 0]))
  (C4:Run c 26 [.int .i64 ((h:Int)+1)] (zs2.set 14 0) d4 (zs2.set 14 0) (.int .i64 (1+(L:Int)))) (hnp:np≤100000) (hL:L≤1000)
  (C5:Run c 93 [.int .i64 1,.int .i64 (h:Int)] (((zs2.set 14 0).set (adr c h 6) np).set (adr c h 7) L) 6 (iT c 1 h (((zs2.set 14 0).set (adr c h 6) np).set (adr c h 7) L)) (.bool true))
  (h6:nth (iT c 1 h (((zs2.set 14 0).set (adr c h 6) np).set (adr c h 7) L)) 6=P) (hP0:0≤P) (hP1:P≤4294900000):
  Run c 75 [.int .i64 ((h:Int)+1)] zs (d1+d2+2+d3+d4+10) ((iT c 1 h (((zs2.set 14 0).set (adr c h 6) np).set (adr c h 7) L)).set 6 (P+(1+(L:Int)))) (.bool true):=fun p m w hG=>by
 have hw:=hm.w
 have hn:=hm.n
 have e1:IntKind.i64.wrap ((h:Int)+1-1)=(h:Int):=by rw[IntWalk.i64_in _ (by omega)];omega
 have e1b:IntKind.i64.wrap (h:Int)=(h:Int):=IntWalk.i64_in _ (by omega)
 have e3b:IntKind.i64.wrap (L:Int)=(L:Int):=IntWalk.i64_in _ (by omega)
 have e2:IntKind.u32.wrap (np:Int)=(np:Int):=IntWalk.u32_in _ (by omega)
 have e3:IntKind.i64.wrap (1+(L:Int)-1)=(L:Int):=by rw[IntWalk.i64_in _ (by omega)];omega
 have e4:max (L:Int) 0=(L:Int):=by omega
 have e5:IntKind.u32.wrap (L:Int)=(L:Int):=IntWalk.u32_in _ (by omega)
 have e6:IntKind.i64.wrap (P+(1+(L:Int)))=P+(1+(L:Int)):=IntWalk.i64_in _ (by omega)
 have HV6:Hid (6<c.W):=hid (by omega)
 have HV7:Hid (7<c.W):=hid (by omega)
 have HN0:Hid ((0:Int)≤np):=hid (by omega)
 have HN1:Hid ((np:Int)≤4294967295):=hid (by omega)
 have HL0:Hid ((0:Int)≤L):=hid (by omega)
 have HL1:Hid ((L:Int)≤4294967295):=hid (by omega)
 have HP0:Hid (0≤P+(1+(L:Int))):=hid (by omega)
 have HP1:Hid (P+(1+(L:Int))≤4294967295):=hid (by omega)
 have HG:=hid hG
 have HH:=hid hh
 have HC1:=hid C1
 have HC2:=hid C2
 have HC3:=hid C3
 have HC4:=hid C4
 have HC5:=hid C5
 have H14:=hid h14
 have H6:=hid h6
 clear hG C1 C2 C3 C4 C5 h14 h6 hh hm hw hn hP0 hP1 hL hnp
 go_enter Tryz.func75,Tryz.ntmps75
 have HT0:Hid (Touch (inG p) w w):=hid (Touch.refl _ _)
 go_wp2_with fail
 refine(HC1.out p _ _ HG.out).mono ?_
 rintro e wm1 ⟨rfl,hG,hT⟩
 have HG1:=hid hG
 have HT1:Hid (Touch (inG p) _ wm1):=hid (HT0.out.trans hT)
 clear hG hT
 go_wp2_with fail
 refine(HC2.out p _ _ HG1.out).mono ?_
 rintro e wm2 ⟨rfl,hG,hT⟩
 have HG2:=hid hG
 have HT2:Hid (Touch (inG p) _ wm2):=hid (HT1.out.trans hT)
 clear hG hT
 go_wp2_with fail
 refine(gQ p c _ 14 _ _ _ HG2.out (by omega) rfl H14.out).mono ?_
 rintro e wm3 ⟨rfl,hG,hT⟩
 have HG3:=hid hG
 have HT3:Hid (Touch (inG p) _ wm3):=hid (HT2.out.trans hT)
 clear hG hT
 go_wp2_with fail
 refine(aO p c _ 14 _ 0 _ HG3.out (by omega) rfl (by omega) (by omega)).mono ?_
 rintro e wm4 ⟨rfl,hG,hT⟩
 have HG4:=hid hG
 have HT4:Hid (Touch (inG p) _ wm4):=hid (HT3.out.trans hT)
 clear hG hT
 go_wp2_with fail
 refine(HC3.out p _ _ HG4.out).mono ?_
 rintro e wm5 ⟨rfl,hG,hT⟩
 have HG5:=hid hG
 have HT5:Hid (Touch (inG p) _ wm5):=hid (HT4.out.trans hT)
 clear hG hT
 go_wp2_with fail
 refine(HC4.out p _ _ HG5.out).mono ?_
 rintro e wm6 ⟨rfl,hG,hT⟩
 have HG6:=hid hG
 have HT6:Hid (Touch (inG p) _ wm6):=hid (HT5.out.trans hT)
 clear hG hT
 go_wp2_with fail
 refine(aK p c _ h 6 _ _ _ _ HG6.out HH.out HV6.out rfl rfl HN0.out HN1.out).mono ?_
 rintro e wm7 ⟨rfl,hG,hT⟩
 have HG7:=hid hG
 have HT7:Hid (Touch (inG p) _ wm7):=hid (HT6.out.trans hT)
 clear hG hT
 go_wp2_with fail
 refine(aK p c _ h 7 _ _ _ _ HG7.out HH.out HV7.out rfl rfl HL0.out HL1.out).mono ?_
 rintro e wm8 ⟨rfl,hG,hT⟩
 have HG8:=hid hG
 have HT8:Hid (Touch (inG p) _ wm8):=hid (HT7.out.trans hT)
 clear hG hT
 go_wp2_with fail
 refine(HC5.out p _ _ HG8.out).mono ?_
 rintro e wm9 ⟨rfl,hG,hT⟩
 have HG9:=hid hG
 have HT9:Hid (Touch (inG p) _ wm9):=hid (HT8.out.trans hT)
 clear hG hT
 go_wp2_with fail
 refine(gQ p c _ 6 _ _ _ HG9.out (by omega) rfl H6.out).mono ?_
 rintro e wm10 ⟨rfl,hG,hT⟩
 have HG10:=hid hG
 have HT10:Hid (Touch (inG p) _ wm10):=hid (HT9.out.trans hT)
 clear hG hT
 go_wp2_with fail
 refine(aO p c _ 6 _ _ _ HG10.out (by omega) rfl HP0.out HP1.out).mono ?_
 rintro e wm11 ⟨rfl,hG,hT⟩
 have HG11:=hid hG
 have HT11:Hid (Touch (inG p) _ wm11):=hid (HT10.out.trans hT)
 clear hG hT
 go_wp2_with fail
 go_ret
 exact⟨rfl,HG11.out.fO rfl (by dsimp only[St.got,St.set];omega),HT11.out⟩
set_option maxHeartbeats 1000000 in
theorem zS{h np nd L:Nat}{b2:Bool}{P x:Int}(hm:c.May)(hh:h<c.N)(C1:Run c 134 [.int .i64 ((h:Int)+1)] zs d1 zs1 (.bool true))(C2:Run c 135 [.int .i64 (h:Int)] zs1 d2 zs2 (.bool b2))
  (h14:nth zs2 14=x) (hx:x≠(h:Int)+1) (C3:Run c 110 [.int .i64 ((h:Int)+1)] zs2 d3 zs2 (.tuple #[.int .i64 (np:Int),.int .i64 (nd:Int),.int .i64 0]))
  (C4:Run c 26 [.int .i64 ((h:Int)+1)] zs2 d4 zs2 (.int .i64 (1+(L:Int)))) (hnp:np≤100000) (hL:L≤1000)
  (C5:Run c 93 [.int .i64 1,.int .i64 (h:Int)] ((zs2.set (adr c h 6) np).set (adr c h 7) L) 6 (iT c 1 h ((zs2.set (adr c h 6) np).set (adr c h 7) L)) (.bool true))
  (h6:nth (iT c 1 h ((zs2.set (adr c h 6) np).set (adr c h 7) L)) 6=P) (hP0:0≤P) (hP1:P≤4294900000):
  Run c 75 [.int .i64 ((h:Int)+1)] zs (d1+d2+1+d3+d4+10) ((iT c 1 h ((zs2.set (adr c h 6) np).set (adr c h 7) L)).set 6 (P+(1+(L:Int)))) (.bool true):=fun p m w hG=>by
 have hw:=hm.w
 have hn:=hm.n
 have e1:IntKind.i64.wrap ((h:Int)+1-1)=(h:Int):=by rw[IntWalk.i64_in _ (by omega)];omega
 have e1b:IntKind.i64.wrap (h:Int)=(h:Int):=IntWalk.i64_in _ (by omega)
 have e3b:IntKind.i64.wrap (L:Int)=(L:Int):=IntWalk.i64_in _ (by omega)
 have e2:IntKind.u32.wrap (np:Int)=(np:Int):=IntWalk.u32_in _ (by omega)
 have e3:IntKind.i64.wrap (1+(L:Int)-1)=(L:Int):=by rw[IntWalk.i64_in _ (by omega)];omega
 have e4:max (L:Int) 0=(L:Int):=by omega
 have e5:IntKind.u32.wrap (L:Int)=(L:Int):=IntWalk.u32_in _ (by omega)
 have e6:IntKind.i64.wrap (P+(1+(L:Int)))=P+(1+(L:Int)):=IntWalk.i64_in _ (by omega)
 have ex:(x==(h:Int)+1)=false:=neq_b hx
 have HV6:Hid (6<c.W):=hid (by omega)
 have HV7:Hid (7<c.W):=hid (by omega)
 have HN0:Hid ((0:Int)≤np):=hid (by omega)
 have HN1:Hid ((np:Int)≤4294967295):=hid (by omega)
 have HL0:Hid ((0:Int)≤L):=hid (by omega)
 have HL1:Hid ((L:Int)≤4294967295):=hid (by omega)
 have HP0:Hid (0≤P+(1+(L:Int))):=hid (by omega)
 have HP1:Hid (P+(1+(L:Int))≤4294967295):=hid (by omega)
 have HG:=hid hG
 have HH:=hid hh
 have HC1:=hid C1
 have HC2:=hid C2
 have HC3:=hid C3
 have HC4:=hid C4
 have HC5:=hid C5
 have H14:=hid h14
 have H6:=hid h6
 clear hG C1 C2 C3 C4 C5 h14 h6 hh hm hw hn hP0 hP1 hL hnp hx
 go_enter Tryz.func75,Tryz.ntmps75
 have HT0:Hid (Touch (inG p) w w):=hid (Touch.refl _ _)
 go_wp2_with fail
 refine(HC1.out p _ _ HG.out).mono ?_
 rintro e wm1 ⟨rfl,hG,hT⟩
 have HG1:=hid hG
 have HT1:Hid (Touch (inG p) _ wm1):=hid (HT0.out.trans hT)
 clear hG hT
 go_wp2_with fail
 refine(HC2.out p _ _ HG1.out).mono ?_
 rintro e wm2 ⟨rfl,hG,hT⟩
 have HG2:=hid hG
 have HT2:Hid (Touch (inG p) _ wm2):=hid (HT1.out.trans hT)
 clear hG hT
 go_wp2_with fail
 refine(gQ p c _ 14 _ _ _ HG2.out (by omega) rfl H14.out).mono ?_
 rintro e wm3 ⟨rfl,hG,hT⟩
 have HG3:=hid hG
 have HT3:Hid (Touch (inG p) _ wm3):=hid (HT2.out.trans hT)
 clear hG hT
 go_wp2_with fail
 refine(HC3.out p _ _ HG3.out).mono ?_
 rintro e wm4 ⟨rfl,hG,hT⟩
 have HG4:=hid hG
 have HT4:Hid (Touch (inG p) _ wm4):=hid (HT3.out.trans hT)
 clear hG hT
 go_wp2_with fail
 refine(HC4.out p _ _ HG4.out).mono ?_
 rintro e wm5 ⟨rfl,hG,hT⟩
 have HG5:=hid hG
 have HT5:Hid (Touch (inG p) _ wm5):=hid (HT4.out.trans hT)
 clear hG hT
 go_wp2_with fail
 refine(aK p c _ h 6 _ _ _ _ HG5.out HH.out HV6.out rfl rfl HN0.out HN1.out).mono ?_
 rintro e wm6 ⟨rfl,hG,hT⟩
 have HG6:=hid hG
 have HT6:Hid (Touch (inG p) _ wm6):=hid (HT5.out.trans hT)
 clear hG hT
 go_wp2_with fail
 refine(aK p c _ h 7 _ _ _ _ HG6.out HH.out HV7.out rfl rfl HL0.out HL1.out).mono ?_
 rintro e wm7 ⟨rfl,hG,hT⟩
 have HG7:=hid hG
 have HT7:Hid (Touch (inG p) _ wm7):=hid (HT6.out.trans hT)
 clear hG hT
 go_wp2_with fail
 refine(HC5.out p _ _ HG7.out).mono ?_
 rintro e wm8 ⟨rfl,hG,hT⟩
 have HG8:=hid hG
 have HT8:Hid (Touch (inG p) _ wm8):=hid (HT7.out.trans hT)
 clear hG hT
 go_wp2_with fail
 refine(gQ p c _ 6 _ _ _ HG8.out (by omega) rfl H6.out).mono ?_
 rintro e wm9 ⟨rfl,hG,hT⟩
 have HG9:=hid hG
 have HT9:Hid (Touch (inG p) _ wm9):=hid (HT8.out.trans hT)
 clear hG hT
 go_wp2_with fail
 refine(aO p c _ 6 _ _ _ HG9.out (by omega) rfl HP0.out HP1.out).mono ?_
 rintro e wm10 ⟨rfl,hG,hT⟩
 have HG10:=hid hG
 have HT10:Hid (Touch (inG p) _ wm10):=hid (HT9.out.trans hT)
 clear hG hT
 go_wp2_with fail
 go_ret
 exact⟨rfl,HG10.out.fO rfl (by dsimp only[St.got,St.set];omega),HT10.out⟩
theorem xz{r n:Int}(hn:n≠0)(C1:Run c 33 [.int .i64 r] zs d1 zs (.int .i64 n)):Run c 17 [.int .i64 r] zs d1 zs (.bool false):=fun p m w hG=>by
 have hb:(n==0)=false:=neq_b hn
 have HG:=hid hG
 have HC:=hid C1
 clear hG C1 hn
 go_enter Tryz.func17,Tryz.ntmps17
 have HT0:Hid (Touch (inG p) w w):=hid (Touch.refl _ _)
 go_wp2_with fail
 refine(HC.out p _ _ HG.out).mono ?_
 rintro e wm1 ⟨rfl,hG,hT⟩
 have HG1:=hid hG
 have HT1:Hid (Touch (inG p) _ wm1):=hid (HT0.out.trans hT)
 clear hG hT
 go_wp2_with fail
 go_ret
 exact⟨rfl,HG1.out,HT1.out⟩
theorem Nc{r:Int}{b:Bool}(C1:Run c 33 [.int .i64 r] zs d1 zs (.int .i64 0))(C2:Run c 75 [.int .i64 r] zs d2 zs2 (.bool b)):Run c 17 [.int .i64 r] zs (d1+d2) zs2 (.bool b):=fun p m w hG=>by
 have HG:=hid hG
 have HC:=hid C1
 have HC2:=hid C2
 clear hG C1 C2
 go_enter Tryz.func17,Tryz.ntmps17
 have HT0:Hid (Touch (inG p) w w):=hid (Touch.refl _ _)
 go_wp2_with fail
 refine(HC.out p _ _ HG.out).mono ?_
 rintro e wm1 ⟨rfl,hG,hT⟩
 have HG1:=hid hG
 have HT1:Hid (Touch (inG p) _ wm1):=hid (HT0.out.trans hT)
 clear hG hT
 go_wp2_with fail
 refine(HC2.out p _ _ HG1.out).mono ?_
 rintro e wm2 ⟨rfl,hG,hT⟩
 have HG2:=hid hG
 have HT2:Hid (Touch (inG p) _ wm2):=hid (HT1.out.trans hT)
 clear hG hT
 go_wp2_with fail
 go_ret
 exact⟨rfl,HG2.out.fO rfl (by dsimp only;omega),HT2.out⟩
theorem xC{r i x:Int}(C1:Run c 70 [.int .i64 r,.int .i64 i] zs d1 zs (.tuple #[.int .i64 x,.int .i64 0]))(C2:Run c 71 [.int .i64 r,.int .i64 i,.int .i64 0] zs d2 zs2 (.int .i64 0))(C3:Run c 33 [.int .i64 x] zs2 d3 zs2 (.int .i64 0)):
  Run c 145 [.int .i64 r,.int .i64 i] zs (d1+d2+d3) zs2 (.tuple #[]):=fun p m w hG=>by
 have HG:=hid hG
 have HC:=hid C1
 have HC2:=hid C2
 have HC3:=hid C3
 clear hG C1 C2 C3
 go_enter Tryz.func145,Tryz.ntmps145
 have HT0:Hid (Touch (inG p) w w):=hid (Touch.refl _ _)
 go_wp2_with fail
 refine(HC.out p _ _ HG.out).mono ?_
 rintro e wm1 ⟨rfl,hG,hT⟩
 have HG1:=hid hG
 have HT1:Hid (Touch (inG p) _ wm1):=hid (HT0.out.trans hT)
 clear hG hT
 go_wp2_with fail
 refine(HC2.out p _ _ HG1.out).mono ?_
 rintro e wm2 ⟨rfl,hG,hT⟩
 have HG2:=hid hG
 have HT2:Hid (Touch (inG p) _ wm2):=hid (HT1.out.trans hT)
 clear hG hT
 go_wp2_with fail
 refine(HC3.out p _ _ HG2.out).mono ?_
 rintro e wm3 ⟨rfl,hG,hT⟩
 have HG3:=hid hG
 have HT3:Hid (Touch (inG p) _ wm3):=hid (HT2.out.trans hT)
 clear hG hT
 go_wp2_with fail
 go_end0
 exact⟨rfl,HG3.out.fO rfl (by dsimp only;omega),HT3.out⟩
def uT(c:Cf)(x:Int)(cb:Bool)(zs:List Int)(d:Nat)(zs':List Int):Prop:=(cb=true∧∃lb:Bool,Run c 188 [.int .i64 x] zs d zs' (.bool lb))∨(cb=false∧d=0∧zs'=zs)
theorem xB{r i x n k:Int}{cb:Bool}{d5 d6:Nat}{zs4:List Int}(C1:Run c 70 [.int .i64 r,.int .i64 i] zs d1 zs (.tuple #[.int .i64 x,.int .i64 0]))(C2:Run c 71 [.int .i64 r,.int .i64 i,.int .i64 0] zs d2 zs2 (.int .i64 0))(C3:Run c 33 [.int .i64 x] zs2 d3 zs2 (.int .i64 n))(hn:n≠0)(C4:Run c 123 [.int .i64 r,.int .i64 i] zs2 d4 zs1 (.bool cb))(C5:uT c x cb zs1 d5 zs3)(C6:Run c 111 [.int .i64 x] zs3 d6 zs4 (.tuple #[.int .i64 k,.bool true]))(hk:k≠0):
  Run c 145 [.int .i64 r,.int .i64 i] zs (d1+d2+d3+d4+d5+d6) zs4 (.tuple #[]):=fun p m w hG=>by
 have hb:(n==0)=false:=neq_b hn
 have hb2:(k==0)=false:=neq_b hk
 have HG:=hid hG
 have HC:=hid C1
 have HC2:=hid C2
 have HC3:=hid C3
 have HC4:=hid C4
 have HC6:=hid C6
 clear hG C1 C2 C3 C4 C6 hn hk
 rcases C5 with⟨rfl,lb,C5⟩|⟨rfl,rfl,rfl⟩
 ·have HC5:=hid C5
  clear C5
  go_enter Tryz.func145,Tryz.ntmps145
  have HT0:Hid (Touch (inG p) w w):=hid (Touch.refl _ _)
  go_wp2_with fail
  refine(HC.out p _ _ HG.out).mono ?_
  rintro e wm1 ⟨rfl,hG,hT⟩
  have HG1:=hid hG
  have HT1:Hid (Touch (inG p) _ wm1):=hid (HT0.out.trans hT)
  clear hG hT
  go_wp2_with fail
  refine(HC2.out p _ _ HG1.out).mono ?_
  rintro e wm2 ⟨rfl,hG,hT⟩
  have HG2:=hid hG
  have HT2:Hid (Touch (inG p) _ wm2):=hid (HT1.out.trans hT)
  clear hG hT
  go_wp2_with fail
  refine(HC3.out p _ _ HG2.out).mono ?_
  rintro e wm3 ⟨rfl,hG,hT⟩
  have HG3:=hid hG
  have HT3:Hid (Touch (inG p) _ wm3):=hid (HT2.out.trans hT)
  clear hG hT
  go_wp2_with fail
  refine(HC4.out p _ _ HG3.out).mono ?_
  rintro e wm4 ⟨rfl,hG,hT⟩
  have HG4:=hid hG
  have HT4:Hid (Touch (inG p) _ wm4):=hid (HT3.out.trans hT)
  clear hG hT
  go_wp2_with fail
  refine(HC5.out p _ _ HG4.out).mono ?_
  rintro e wm5 ⟨rfl,hG,hT⟩
  have HG5:=hid hG
  have HT5:Hid (Touch (inG p) _ wm5):=hid (HT4.out.trans hT)
  clear hG hT
  go_wp2_with fail
  refine(HC6.out p _ _ HG5.out).mono ?_
  rintro e wm6 ⟨rfl,hG,hT⟩
  have HG6:=hid hG
  have HT6:Hid (Touch (inG p) _ wm6):=hid (HT5.out.trans hT)
  clear hG hT
  go_wp2_with fail
  go_end0
  exact⟨rfl,HG6.out.fO rfl (by dsimp only;omega),HT6.out⟩
 ·go_enter Tryz.func145,Tryz.ntmps145
  have HT0:Hid (Touch (inG p) w w):=hid (Touch.refl _ _)
  go_wp2_with fail
  refine(HC.out p _ _ HG.out).mono ?_
  rintro e wm1 ⟨rfl,hG,hT⟩
  have HG1:=hid hG
  have HT1:Hid (Touch (inG p) _ wm1):=hid (HT0.out.trans hT)
  clear hG hT
  go_wp2_with fail
  refine(HC2.out p _ _ HG1.out).mono ?_
  rintro e wm2 ⟨rfl,hG,hT⟩
  have HG2:=hid hG
  have HT2:Hid (Touch (inG p) _ wm2):=hid (HT1.out.trans hT)
  clear hG hT
  go_wp2_with fail
  refine(HC3.out p _ _ HG2.out).mono ?_
  rintro e wm3 ⟨rfl,hG,hT⟩
  have HG3:=hid hG
  have HT3:Hid (Touch (inG p) _ wm3):=hid (HT2.out.trans hT)
  clear hG hT
  go_wp2_with fail
  refine(HC4.out p _ _ HG3.out).mono ?_
  rintro e wm4 ⟨rfl,hG,hT⟩
  have HG4:=hid hG
  have HT4:Hid (Touch (inG p) _ wm4):=hid (HT3.out.trans hT)
  clear hG hT
  go_wp2_with fail
  refine(HC6.out p _ _ HG4.out).mono ?_
  rintro e wm5 ⟨rfl,hG,hT⟩
  have HG5:=hid hG
  have HT5:Hid (Touch (inG p) _ wm5):=hid (HT4.out.trans hT)
  clear hG hT
  go_wp2_with fail
  go_end0
  exact⟨rfl,HG5.out.fO rfl (by dsimp only;omega),HT5.out⟩
theorem xA{r i x n:Int}{cb bb:Bool}{d5 d6 d7:Nat}{zs4 zs5:List Int}(C1:Run c 70 [.int .i64 r,.int .i64 i] zs d1 zs (.tuple #[.int .i64 x,.int .i64 0]))(C2:Run c 71 [.int .i64 r,.int .i64 i,.int .i64 0] zs d2 zs2 (.int .i64 0))(C3:Run c 33 [.int .i64 x] zs2 d3 zs2 (.int .i64 n))(hn:n≠0)(C4:Run c 123 [.int .i64 r,.int .i64 i] zs2 d4 zs1 (.bool cb))(C5:uT c x cb zs1 d5 zs3)(C6:Run c 111 [.int .i64 x] zs3 d6 zs4 (.tuple #[.int .i64 0,.bool true]))(C7:Run c 75 [.int .i64 x] zs4 d7 zs5 (.bool bb)):
  Run c 145 [.int .i64 r,.int .i64 i] zs (d1+d2+d3+d4+d5+d6+d7) zs5 (.tuple #[]):=fun p m w hG=>by
 have hb:(n==0)=false:=neq_b hn
 have HG:=hid hG
 have HC:=hid C1
 have HC2:=hid C2
 have HC3:=hid C3
 have HC4:=hid C4
 have HC6:=hid C6
 have HC7:=hid C7
 clear hG C1 C2 C3 C4 C6 C7 hn
 rcases C5 with⟨rfl,lb,C5⟩|⟨rfl,rfl,rfl⟩
 ·have HC5:=hid C5
  clear C5
  go_enter Tryz.func145,Tryz.ntmps145
  have HT0:Hid (Touch (inG p) w w):=hid (Touch.refl _ _)
  go_wp2_with fail
  refine(HC.out p _ _ HG.out).mono ?_
  rintro e wm1 ⟨rfl,hG,hT⟩
  have HG1:=hid hG
  have HT1:Hid (Touch (inG p) _ wm1):=hid (HT0.out.trans hT)
  clear hG hT
  go_wp2_with fail
  refine(HC2.out p _ _ HG1.out).mono ?_
  rintro e wm2 ⟨rfl,hG,hT⟩
  have HG2:=hid hG
  have HT2:Hid (Touch (inG p) _ wm2):=hid (HT1.out.trans hT)
  clear hG hT
  go_wp2_with fail
  refine(HC3.out p _ _ HG2.out).mono ?_
  rintro e wm3 ⟨rfl,hG,hT⟩
  have HG3:=hid hG
  have HT3:Hid (Touch (inG p) _ wm3):=hid (HT2.out.trans hT)
  clear hG hT
  go_wp2_with fail
  refine(HC4.out p _ _ HG3.out).mono ?_
  rintro e wm4 ⟨rfl,hG,hT⟩
  have HG4:=hid hG
  have HT4:Hid (Touch (inG p) _ wm4):=hid (HT3.out.trans hT)
  clear hG hT
  go_wp2_with fail
  refine(HC5.out p _ _ HG4.out).mono ?_
  rintro e wm5 ⟨rfl,hG,hT⟩
  have HG5:=hid hG
  have HT5:Hid (Touch (inG p) _ wm5):=hid (HT4.out.trans hT)
  clear hG hT
  go_wp2_with fail
  refine(HC6.out p _ _ HG5.out).mono ?_
  rintro e wm6 ⟨rfl,hG,hT⟩
  have HG6:=hid hG
  have HT6:Hid (Touch (inG p) _ wm6):=hid (HT5.out.trans hT)
  clear hG hT
  go_wp2_with fail
  refine(HC7.out p _ _ HG6.out).mono ?_
  rintro e wm7 ⟨rfl,hG,hT⟩
  have HG7:=hid hG
  have HT7:Hid (Touch (inG p) _ wm7):=hid (HT6.out.trans hT)
  clear hG hT
  go_wp2_with fail
  go_end0
  exact⟨rfl,HG7.out.fO rfl (by dsimp only;omega),HT7.out⟩
 ·go_enter Tryz.func145,Tryz.ntmps145
  have HT0:Hid (Touch (inG p) w w):=hid (Touch.refl _ _)
  go_wp2_with fail
  refine(HC.out p _ _ HG.out).mono ?_
  rintro e wm1 ⟨rfl,hG,hT⟩
  have HG1:=hid hG
  have HT1:Hid (Touch (inG p) _ wm1):=hid (HT0.out.trans hT)
  clear hG hT
  go_wp2_with fail
  refine(HC2.out p _ _ HG1.out).mono ?_
  rintro e wm2 ⟨rfl,hG,hT⟩
  have HG2:=hid hG
  have HT2:Hid (Touch (inG p) _ wm2):=hid (HT1.out.trans hT)
  clear hG hT
  go_wp2_with fail
  refine(HC3.out p _ _ HG2.out).mono ?_
  rintro e wm3 ⟨rfl,hG,hT⟩
  have HG3:=hid hG
  have HT3:Hid (Touch (inG p) _ wm3):=hid (HT2.out.trans hT)
  clear hG hT
  go_wp2_with fail
  refine(HC4.out p _ _ HG3.out).mono ?_
  rintro e wm4 ⟨rfl,hG,hT⟩
  have HG4:=hid hG
  have HT4:Hid (Touch (inG p) _ wm4):=hid (HT3.out.trans hT)
  clear hG hT
  go_wp2_with fail
  refine(HC6.out p _ _ HG4.out).mono ?_
  rintro e wm5 ⟨rfl,hG,hT⟩
  have HG5:=hid hG
  have HT5:Hid (Touch (inG p) _ wm5):=hid (HT4.out.trans hT)
  clear hG hT
  go_wp2_with fail
  refine(HC7.out p _ _ HG5.out).mono ?_
  rintro e wm6 ⟨rfl,hG,hT⟩
  have HG6:=hid hG
  have HT6:Hid (Touch (inG p) _ wm6):=hid (HT5.out.trans hT)
  clear hG hT
  go_wp2_with fail
  go_end0
  exact⟨rfl,HG6.out.fO rfl (by dsimp only;omega),HT6.out⟩
end
def jo(W:Nat)(l:Int):Int:=(if 0<l then l-1 else 0)*((W:Int)-1)
theorem vF(p:Pl)(c:Cf)(s:St)(l:Int)(w:World)(hG:G w p c s)(h0:0≤l)(h1:l≤1000):
  Calls Tryz.prog 144 #[.pointer (some ⟨p.a,0,none⟩),.int .i64 l] w fun e w'=>e=.returned (.int .i64 (jo c.W l))∧Below w.heap.size w w':=by
 have hw:=hG.may.w
 have e1:IntKind.i64.wrap (l-1)=l-1:=IntWalk.i64_in _ (by omega)
 obtain⟨q,hq⟩:∃q,q=(if 0<l then l-1 else 0):=⟨_,rfl⟩
 have e2:max (l-1) 0=q:=by rw[hq];split<;>omega
 have hq0:0≤q∧q≤1000:=by rw[hq];split<;>omega
 have e3:IntKind.i64.wrap ((c.W:Int)-1)=(c.W:Int)-1:=IntWalk.i64_in _ (by omega)
 have hb:0≤q*((c.W:Int)-1)∧q*((c.W:Int)-1)≤1000*256:=⟨Int.mul_nonneg hq0.1 (by omega),Int.mul_le_mul hq0.2 (by omega) (by omega) (by omega)⟩
 have e4:IntKind.i64.wrap (q*((c.W:Int)-1))=q*((c.W:Int)-1):=IntWalk.i64_in _ (by omega)
 have ea:jo c.W l=q*((c.W:Int)-1):=by unfold jo;rw[hq]
 have HE:=hid ea
 have HG:=hid hG
 have hf:=jw (c.N:Int) (c.W:Int) (c.R:Int) (c.K:Int)
 clear hG ea hq h0 h1 hq0 hb hw
 go_enter Tryz.func144,Tryz.ntmps144
 go_wp2_with fail
 refine(cZ p c s _ HG.out).mono ?_
 rintro e w1 ⟨rfl,hb⟩
 have HB:=hid hb
 clear hb
 go_wp2_with fail
 go_ret
 exact⟨by rw[HE.out];rfl,HB.out⟩
section
variable {c:Cf} {zs zs1 zs2 zs3:List Int} {d1 d2 d3 d4:Nat}
set_option maxHeartbeats 1000000 in
theorem zU(C1:Run c 92 [.int .i64 1] zs d1 zs (.tuple #[.int .i64 0,.bool false])):Run c 79 [] zs d1 zs (.tuple #[.bool false,.bool false]):=fun p m w hG=>by
 have HG:=hid hG
 have HC:=hid C1
 clear hG C1
 go_enter Tryz.func79,Tryz.ntmps79
 have HT0:Hid (Touch (inG p) w w):=hid (Touch.refl _ _)
 go_wp2_with fail
 refine(HC.out p _ _ HG.out).mono ?_
 rintro e wm1 ⟨rfl,hG,hT⟩
 have HG1:=hid hG
 have HT1:Hid (Touch (inG p) _ wm1):=hid (HT0.out.trans hT)
 clear hG hT
 go_wp2_with fail
 go_ret2
 exact⟨rfl,HG1.out,HT1.out⟩
set_option maxHeartbeats 1000000 in
theorem xE{h:Nat}{f l:Int}(hm:c.May)(hh:h<c.N)(C1:Run c 92 [.int .i64 1] zs d1 zs (.tuple #[.int .i64 (h:Int),.bool true]))(h6:nth zs (adr c h 6)=f)(h7:nth zs (adr c h 7)=l)
  (hf0:0<f) (hf1:f≤1000000) (hl0:0≤l) (hl1:l≤1000) (ha:jo c.W l<f) (C2:Run c 145 [.int .i64 ((h:Int)+1),.int .i64 (f-1)] zs d2 zs2 (.tuple #[])):
  Run c 79 [] zs (d1+2+d2+1) (zs2.set (adr c h 6) (f-1)) (.tuple #[.bool false,.bool true]):=fun p m w hG=>by
 have hw:=hm.w
 have hn:=hm.n
 have HV6:Hid (6<c.W):=hid (by omega)
 have HV7:Hid (7<c.W):=hid (by omega)
 have e1:IntKind.i64.wrap f=f:=IntWalk.i64_in _ (by omega)
 have e2:IntKind.i64.wrap l=l:=IntWalk.i64_in _ (by omega)
 have e3:IntKind.i64.wrap ((h:Int)+1)=(h:Int)+1:=IntWalk.i64_in _ (by omega)
 have e4:IntKind.i64.wrap (f-1)=f-1:=IntWalk.i64_in _ (by omega)
 have e5:IntKind.u32.wrap (f-1)=f-1:=IntWalk.u32_in _ (by omega)
 have HF0:Hid (0≤f-1):=hid (by omega)
 have HF1:Hid (f-1≤4294967295):=hid (by omega)
 have HL0:=hid hl0
 have HL1:=hid hl1
 have H6:=hid h6
 have H7:=hid h7
 have HH:=hid hh
 have HG:=hid hG
 have HC:=hid C1
 have HC2:=hid C2
 clear hG C1 C2 h6 h7 hh hm hw hn hf0 hf1 hl0 hl1
 go_enter Tryz.func79,Tryz.ntmps79
 have HT0:Hid (Touch (inG p) w w):=hid (Touch.refl _ _)
 go_wp2_with fail
 refine(HC.out p _ _ HG.out).mono ?_
 rintro e wm1 ⟨rfl,hG,hT⟩
 have HG1:=hid hG
 have HT1:Hid (Touch (inG p) _ wm1):=hid (HT0.out.trans hT)
 clear hG hT
 go_wp2_with fail
 refine(fq p c _ h 6 _ _ _ _ HG1.out HH.out HV6.out rfl rfl H6.out).mono ?_
 rintro e wm2 ⟨rfl,hG,hT⟩
 have HG2:=hid hG
 have HT2:Hid (Touch (inG p) _ wm2):=hid (HT1.out.trans hT)
 clear hG hT
 go_wp2_with fail
 refine(fq p c _ h 7 _ _ _ _ HG2.out HH.out HV7.out rfl rfl H7.out).mono ?_
 rintro e wm3 ⟨rfl,hG,hT⟩
 have HG3:=hid hG
 have HT3:Hid (Touch (inG p) _ wm3):=hid (HT2.out.trans hT)
 clear hG hT
 go_wp2_with fail
 refine(vF p c _ l _ HG3.out HL0.out HL1.out).mono ?_
 rintro e wm4 ⟨rfl,hb⟩
 have HG4:=hid (HG3.out.later hb)
 have HT4:Hid (Touch (inG p) _ wm4):=hid (HT3.out.trans (Touch.of_below hb))
 clear hb
 go_wp2_with fail
 refine(HC2.out p _ _ HG4.out).mono ?_
 rintro e wm5 ⟨rfl,hG,hT⟩
 have HG5:=hid hG
 have HT5:Hid (Touch (inG p) _ wm5):=hid (HT4.out.trans hT)
 clear hG hT
 go_wp2_with fail
 refine(aK p c _ h 6 _ _ _ _ HG5.out HH.out HV6.out rfl rfl HF0.out HF1.out).mono ?_
 rintro e wm6 ⟨rfl,hG,hT⟩
 have HG6:=hid hG
 have HT6:Hid (Touch (inG p) _ wm6):=hid (HT5.out.trans hT)
 clear hG hT
 go_wp2_with fail
 go_ret2
 exact⟨rfl,HG6.out.fO rfl (by dsimp only[St.got,St.set];omega),HT6.out⟩
set_option maxHeartbeats 1000000 in
theorem zV{h:Nat}{f l P:Int}(hm:c.May)(hh:h<c.N)(C1:Run c 92 [.int .i64 1] zs d1 zs (.tuple #[.int .i64 (h:Int),.bool true]))(h6:nth zs (adr c h 6)=f)(h7:nth zs (adr c h 7)=l)
  (hf0:0≤f) (hf1:f≤1000000) (hl0:0<l) (hl1:l≤1000) (ha:¬jo c.W l<f) (C2:Run c 146 [.int .i64 ((h:Int)+1),.int .i64 (l-1)] zs d2 zs2 (.bool true))
  (hP:nth (zs2.set (adr c h 7) (l-1)) 6=P) (hP0:0<P) (hP1:P≤4294967295):
  Run c 79 [] zs (d1+2+d2+3) ((zs2.set (adr c h 7) (l-1)).set 6 (P-1)) (.tuple #[.bool true,.bool true]):=fun p m w hG=>by
 have hw:=hm.w
 have hn:=hm.n
 have HV6:Hid (6<c.W):=hid (by omega)
 have HV7:Hid (7<c.W):=hid (by omega)
 have e1:IntKind.i64.wrap f=f:=IntWalk.i64_in _ (by omega)
 have e2:IntKind.i64.wrap l=l:=IntWalk.i64_in _ (by omega)
 have e3:IntKind.i64.wrap ((h:Int)+1)=(h:Int)+1:=IntWalk.i64_in _ (by omega)
 have e4:IntKind.i64.wrap (l-1)=l-1:=IntWalk.i64_in _ (by omega)
 have e5:IntKind.u32.wrap (l-1)=l-1:=IntWalk.u32_in _ (by omega)
 have e6:IntKind.i64.wrap (P-1)=P-1:=IntWalk.i64_in _ (by omega)
 have HF0:Hid (0≤l-1):=hid (by omega)
 have HF1:Hid (l-1≤4294967295):=hid (by omega)
 have HP0:Hid (0≤P-1):=hid (by omega)
 have HP1:Hid (P-1≤4294967295):=hid (by omega)
 have HL0:Hid (0≤l):=hid (by omega)
 have HL1:=hid hl1
 have H6:=hid h6
 have H7:=hid h7
 have HP:=hid hP
 have HH:=hid hh
 have HG:=hid hG
 have HC:=hid C1
 have HC2:=hid C2
 clear hG C1 C2 h6 h7 hh hm hw hn hf0 hf1 hl1 hP hP0 hP1
 go_enter Tryz.func79,Tryz.ntmps79
 have HT0:Hid (Touch (inG p) w w):=hid (Touch.refl _ _)
 go_wp2_with fail
 refine(HC.out p _ _ HG.out).mono ?_
 rintro e wm1 ⟨rfl,hG,hT⟩
 have HG1:=hid hG
 have HT1:Hid (Touch (inG p) _ wm1):=hid (HT0.out.trans hT)
 clear hG hT
 go_wp2_with fail
 refine(fq p c _ h 6 _ _ _ _ HG1.out HH.out HV6.out rfl rfl H6.out).mono ?_
 rintro e wm2 ⟨rfl,hG,hT⟩
 have HG2:=hid hG
 have HT2:Hid (Touch (inG p) _ wm2):=hid (HT1.out.trans hT)
 clear hG hT
 go_wp2_with fail
 refine(fq p c _ h 7 _ _ _ _ HG2.out HH.out HV7.out rfl rfl H7.out).mono ?_
 rintro e wm3 ⟨rfl,hG,hT⟩
 have HG3:=hid hG
 have HT3:Hid (Touch (inG p) _ wm3):=hid (HT2.out.trans hT)
 clear hG hT
 go_wp2_with fail
 refine(vF p c _ l _ HG3.out HL0.out HL1.out).mono ?_
 rintro e wm4 ⟨rfl,hb⟩
 have HG4:=hid (HG3.out.later hb)
 have HT4:Hid (Touch (inG p) _ wm4):=hid (HT3.out.trans (Touch.of_below hb))
 clear hb
 go_wp2_with fail
 refine(HC2.out p _ _ HG4.out).mono ?_
 rintro e wm5 ⟨rfl,hG,hT⟩
 have HG5:=hid hG
 have HT5:Hid (Touch (inG p) _ wm5):=hid (HT4.out.trans hT)
 clear hG hT
 go_wp2_with fail
 refine(aK p c _ h 7 _ _ _ _ HG5.out HH.out HV7.out rfl rfl HF0.out HF1.out).mono ?_
 rintro e wm6 ⟨rfl,hG,hT⟩
 have HG6:=hid hG
 have HT6:Hid (Touch (inG p) _ wm6):=hid (HT5.out.trans hT)
 clear hG hT
 go_wp2_with fail
 refine(gQ p c _ 6 _ _ _ HG6.out (by omega) rfl HP.out).mono ?_
 rintro e wm7 ⟨rfl,hG,hT⟩
 have HG7:=hid hG
 have HT7:Hid (Touch (inG p) _ wm7):=hid (HT6.out.trans hT)
 clear hG hT
 go_wp2_with fail
 refine(aO p c _ 6 _ _ _ HG7.out (by omega) rfl HP0.out HP1.out).mono ?_
 rintro e wm8 ⟨rfl,hG,hT⟩
 have HG8:=hid hG
 have HT8:Hid (Touch (inG p) _ wm8):=hid (HT7.out.trans hT)
 clear hG hT
 go_wp2_with fail
 go_ret2
 exact⟨rfl,HG8.out.fO rfl (by dsimp only[St.got,St.set];omega),HT8.out⟩
set_option maxHeartbeats 1000000 in
theorem Cn{h:Nat}{f P:Int}(hm:c.May)(hh:h<c.N)(C1:Run c 92 [.int .i64 1] zs d1 zs (.tuple #[.int .i64 (h:Int),.bool true]))(h6:nth zs (adr c h 6)=f)(h7:nth zs (adr c h 7)=0)
  (hf0:0≤f) (hf1:f≤1000000) (ha:¬jo c.W 0<f) (C2:Run c 147 [.int .i64 1] zs d2 zs2 (.tuple #[.int .i64 (h:Int),.bool true])) (C3:Run c 148 [.int .i64 ((h:Int)+1)] zs2 d3 zs3 (.bool true))
  (hP:nth zs3 6=P) (hP0:0<P) (hP1:P≤4294967295):
  Run c 79 [] zs (d1+2+d2+d3+2) (zs3.set 6 (P-1)) (.tuple #[.bool true,.bool true]):=fun p m w hG=>by
 have hw:=hm.w
 have hn:=hm.n
 have HV6:Hid (6<c.W):=hid (by omega)
 have HV7:Hid (7<c.W):=hid (by omega)
 have e1:IntKind.i64.wrap f=f:=IntWalk.i64_in _ (by omega)
 have e3:IntKind.i64.wrap ((h:Int)+1)=(h:Int)+1:=IntWalk.i64_in _ (by omega)
 have e6:IntKind.i64.wrap (P-1)=P-1:=IntWalk.i64_in _ (by omega)
 have HP0:Hid (0≤P-1):=hid (by omega)
 have HP1:Hid (P-1≤4294967295):=hid (by omega)
 have H6:=hid h6
 have H7:=hid h7
 have HP:=hid hP
 have HH:=hid hh
 have HG:=hid hG
 have HC:=hid C1
 have HC2:=hid C2
 have HC3:=hid C3
 clear hG C1 C2 C3 h6 h7 hh hm hw hn hf0 hf1 hP hP0 hP1
 go_enter Tryz.func79,Tryz.ntmps79
 have HT0:Hid (Touch (inG p) w w):=hid (Touch.refl _ _)
 go_wp2_with fail
 refine(HC.out p _ _ HG.out).mono ?_
 rintro e wm1 ⟨rfl,hG,hT⟩
 have HG1:=hid hG
 have HT1:Hid (Touch (inG p) _ wm1):=hid (HT0.out.trans hT)
 clear hG hT
 go_wp2_with fail
 refine(fq p c _ h 6 _ _ _ _ HG1.out HH.out HV6.out rfl rfl H6.out).mono ?_
 rintro e wm2 ⟨rfl,hG,hT⟩
 have HG2:=hid hG
 have HT2:Hid (Touch (inG p) _ wm2):=hid (HT1.out.trans hT)
 clear hG hT
 go_wp2_with fail
 refine(fq p c _ h 7 _ _ _ _ HG2.out HH.out HV7.out rfl rfl H7.out).mono ?_
 rintro e wm3 ⟨rfl,hG,hT⟩
 have HG3:=hid hG
 have HT3:Hid (Touch (inG p) _ wm3):=hid (HT2.out.trans hT)
 clear hG hT
 go_wp2_with fail
 refine(vF p c _ 0 _ HG3.out (by omega) (by omega)).mono ?_
 rintro e wm4 ⟨rfl,hb⟩
 have HG4:=hid (HG3.out.later hb)
 have HT4:Hid (Touch (inG p) _ wm4):=hid (HT3.out.trans (Touch.of_below hb))
 clear hb
 go_wp2_with fail
 refine(HC2.out p _ _ HG4.out).mono ?_
 rintro e wm5 ⟨rfl,hG,hT⟩
 have HG5:=hid hG
 have HT5:Hid (Touch (inG p) _ wm5):=hid (HT4.out.trans hT)
 clear hG hT
 go_wp2_with fail
 refine(HC3.out p _ _ HG5.out).mono ?_
 rintro e wm6 ⟨rfl,hG,hT⟩
 have HG6:=hid hG
 have HT6:Hid (Touch (inG p) _ wm6):=hid (HT5.out.trans hT)
 clear hG hT
 go_wp2_with fail
 refine(gQ p c _ 6 _ _ _ HG6.out (by omega) rfl HP.out).mono ?_
 rintro e wm7 ⟨rfl,hG,hT⟩
 have HG7:=hid hG
 have HT7:Hid (Touch (inG p) _ wm7):=hid (HT6.out.trans hT)
 clear hG hT
 go_wp2_with fail
 refine(aO p c _ 6 _ _ _ HG7.out (by omega) rfl HP0.out HP1.out).mono ?_
 rintro e wm8 ⟨rfl,hG,hT⟩
 have HG8:=hid hG
 have HT8:Hid (Touch (inG p) _ wm8):=hid (HT7.out.trans hT)
 clear hG hT
 go_wp2_with fail
 go_ret2
 exact⟨rfl,HG8.out.fO rfl (by dsimp only[St.got,St.set];omega),HT8.out⟩
theorem Nf{b ok:Bool}(C1:Run c 79 [] zs d1 zs1 (.tuple #[.bool b,.bool ok])):Run c 22 [] zs d1 zs1 (.bool ok):=fun p m w hG=>by
 have HG:=hid hG
 have HC:=hid C1
 clear hG C1
 go_enter Tryz.func22,Tryz.ntmps22
 have HT0:Hid (Touch (inG p) w w):=hid (Touch.refl _ _)
 go_wp2_with fail
 refine(HC.out p _ _ HG.out).mono ?_
 rintro e wm1 ⟨rfl,hG,hT⟩
 have HG1:=hid hG
 have HT1:Hid (Touch (inG p) _ wm1):=hid (HT0.out.trans hT)
 clear hG hT
 go_wp2_with fail
 go_ret
 exact⟨rfl,HG1.out,HT1.out⟩
theorem EK{P:Int}(hP:nth zs 6=P):Run c 29 [] zs 1 zs (.int .i64 P):=fun p m w hG=>by
 have HG:=hid hG
 have HP:=hid hP
 clear hG hP
 go_enter Tryz.func29,Tryz.ntmps29
 have HT0:Hid (Touch (inG p) w w):=hid (Touch.refl _ _)
 go_wp2_with fail
 refine(gQ p c _ 6 _ _ _ HG.out (by omega) rfl HP.out).mono ?_
 rintro e wm1 ⟨rfl,hG,hT⟩
 have HG1:=hid hG
 have HT1:Hid (Touch (inG p) _ wm1):=hid (HT0.out.trans hT)
 clear hG hT
 go_wp2_with fail
 go_ret
 exact⟨rfl,HG1.out,HT1.out⟩
end
section
variable {D D':Wd} {r:Int} {t s:Th} {g:Th→Th}
theorem kW{g:Th→Th}(hg:∀t,(g t).ended=t.ended∧(g t).h=t.h)(q:Int):(D.upd r g).find q=(D.find q).map (fun t=>if t.at r then g t else t):=iy hg q D.ts
theorem find_at_r(hf:D.find r=some t):t.at r=true:=by
 obtain⟨h1,h2,h3⟩:=find_at hf
 unfold Th.at
 simp[h2,h3]
theorem dA:∀{l:List Th},aP r l=some t→(g t).ended=false→(g t).h=t.h→(aM (bz r g l)).map Th.h=(aM l).map Th.h
 |[],h,_,_=>by simp[aP] at h
 |u::l,h,he,hh=>by
  unfold aP at h
  unfold bz
  cases hu:u.at r with
  |true=>
   rw[hu] at h
   simp at h
   subst h
   have hue:u.ended=false:=by unfold Th.at at hu;simp at hu;exact hu.1
   rw[if_pos rfl,az,az,he,hue]
   simp[hh]
  |false=>
   rw[hu] at h
   simp at h
   rw[if_neg (by simp),az,az]
   cases hue:u.ended with
   |true=>simp;exact dA h he hh
   |false=>simp;exact dA h he hh
theorem San.findIt(S:San D)(ht:t∈D.live):D.find ((t.h:Int)+1)=some t:=by
 have hn:=S.nd
 unfold Wd.live at hn ht
 unfold Wd.find
 revert ht hn
 induction D.ts with
 |nil=>intro ht hn;simp[aM] at ht
 |cons u l ih=>
  intro ht hn
  unfold aP
  rw[az] at hn ht
  cases hue:u.ended with
  |true=>
   rw[hue] at hn ht
   have:u.at ((t.h:Int)+1)=false:=by unfold Th.at;simp[hue]
   simp[this]
   exact ih (by simpa using ht) (by simpa using hn)
  |false=>
   rw[hue] at hn ht
   simp at hn ht
   rcases ht with rfl|ht
   ·have:t.at ((t.h:Int)+1)=true:=by unfold Th.at;simp[hue]
    simp[this]
   ·have:u.at ((t.h:Int)+1)=false:=by
     unfold Th.at
     simp[hue]
     intro e
     exact hn.1 t ht (by omega)
    simp[this]
    exact ih ht hn.2
theorem San.same(S:San D)(hu:t∈D.live)(hv:s∈D.live)(e:t.h=s.h):t=s:=by
 have h1:=S.findIt hu
 have h2:=S.findIt hv
 rw[e,h2] at h1
 exact(Option.some.inj h1).symm
theorem aQ(h:D'.live.map Th.h=D.live.map Th.h)(hs:s∈D.live):∃s',s'∈D'.live∧s'.h=s.h:=by
 have:s.h∈D'.live.map Th.h:=by rw[h];exact List.mem_map.2 ⟨s,hs,rfl⟩
 obtain⟨s',h1,h2⟩:=List.mem_map.1 this
 exact⟨s',h1,h2⟩
theorem San.upd(S:San D)(hf:D.find r=some t)(he:(g t).ended=false)(hh:(g t).h=t.h)(hts:D'.ts=bz r g D.ts)(hw:D'.w=D.w)(hgr:D'.grave=D.grave)(hok:QG D.w D.grave (g t))
  (hring:∀b,b∈D'.ring→b∈D.ring∨(b=t.h∧(g t).mr.dead=false)) (hp:D'.pending+(bT t:Int)=D.pending+(bT (g t):Int)):San D':=by
 have hheads:D'.live.map Th.h=D.live.map Th.h:=by unfold Wd.live;rw[hts];exact dA hf he hh
 have hmem:∀s,s∈D'.live→s=g t∨(s∈D.live∧s.h≠t.h):=fun s hs=>by
  unfold Wd.live at hs
  rw[hts] at hs
  exact bD S.nd hf hs
 have htl:=(find_live hf).1
 have hsum:=fG (φ:=bT) (g:=g) hf he
 refine⟨by rw[hw];exact S.w,by rw[hheads];exact S.nd,by rw[hgr];exact S.gd,fun q hq=> ?_,fun s hs=> ?_,fun s hs hr=> ?_,?_⟩
 ·obtain⟨u,hu,e⟩:=S.gv q (hgr▸hq)
  obtain⟨u',h1,h2⟩:=aQ hheads hu
  exact⟨u',h1,by omega⟩
 ·rw[hw,hgr]
  rcases hmem s hs with rfl|⟨h,_⟩
  ·exact hok
  ·exact S.ok s h
 ·rcases hmem s hs with rfl|⟨h,hne⟩
  ·rcases hring _ hr with h1|⟨_,h1⟩
   ·have hd:=S.ring t htl (by rw[←hh];exact h1)
    have hi:=(S.ok t htl).iff_
    have hi2:=hok.iff_
    rw[hh] at hi2
    cases hx:(g t).mr.dead with
    |false=>rfl
    |true=>rw[hi.2 (hi2.1 hx)] at hd;cases hd
   ·exact h1
  ·rcases hring _ hr with h1|⟨h1,_⟩
   ·exact S.ring s h h1
   ·exact absurd h1 hne
 ·have:=S.pend
  rw[hts]
  omega
theorem San.mark(S:San D)(r:Int){f:Mrk→Mrk}(h1:∀m,(f m).dead=m.dead)(h2:∀m,(f m).left=m.left)(h3:∀m,(f m).leaves=m.leaves):San (D.mark r f):=by
 cases hf:D.find r with
 |none=>rw[bG f hf];exact S
 |some t=>
  have hk:=S.ok t (find_live hf).1
  have hpe:bT {t with mr:=f t.mr}=bT t:=by unfold bT;rw[h1,h3]
  refine S.upd (g:=fun t=>{t with mr:=f t.mr}) hf (find_at hf).2.1 rfl rfl rfl rfl ⟨⟨hk.ql.small,hk.ql.big⟩,by show(f t.mr).dead=true↔_;rw[h1];exact hk.iff_,fun hd=> ?_,fun hd=> ?_⟩ (fun b hb=>.inl hb) (by show D.pending+_=_;rw[hpe])
  ·have k:=hk.dead (by rw[←h1];exact hd)
   refine⟨?_,?_,?_,?_,?_,?_,?_,?_⟩
   ·show 0≤(f t.mr).leaves;rw[h3];exact k.l0
   ·show(f t.mr).leaves≤_;rw[h3];exact k.l1
   ·show 0≤(f t.mr).left;rw[h2];exact k.f0
   ·show(f t.mr).left≤_;rw[h2];exact k.f1
   ·show _→(f t.mr).left≤(f t.mr).leaves*_;rw[h2,h3];exact k.fl
   ·show ∀j:Nat,(j:Int)<(f t.mr).leaves→_;rw[h3];exact k.there
   ·show ∀j:Nat,(f t.mr).leaves≤(j:Int)→_;rw[h3];exact k.gone
   ·show ∀i:Nat,(f t.mr).left≤(i:Int)→_;rw[h2];exact k.zero
  ·exact hk.alive (by rw[←h1];exact hd)
theorem San.same_but(S:San D)(hts:D'.ts=D.ts)(hw:D'.w=D.w)(hgr:D'.grave=D.grave)(hpe:D'.pending=D.pending)(hring:∀b,b∈D'.ring→b∈D.ring∨∀t,t∈D.live→t.h=b→t.mr.dead=false):San D':=by
 have hl:D'.live=D.live:=by unfold Wd.live;rw[hts]
 refine⟨by rw[hw];exact S.w,by rw[hl];exact S.nd,by rw[hgr];exact S.gd,by rw[hgr,hl];exact S.gv,by rw[hgr,hl,hw];exact S.ok,fun t ht hr=> ?_,by rw[hts,hpe];exact S.pend⟩
 rw[hl] at ht
 rcases hring _ hr with h|h
 ·exact S.ring t ht h
 ·exact h t ht rfl
theorem San.setP(S:San D)(hf:D.find r=some t)(i:Nat){x:Int}(hx:t.mr.dead=true→x=0):San (D.setP r i x):=by
 have hk:=S.ok t (find_live hf).1
 refine S.upd (g:=fun t=>{t with pt:=t.pt.set i x}) hf (find_at hf).2.1 rfl rfl rfl rfl ⟨⟨by simpa using hk.ql.small,by simpa using hk.ql.big⟩,hk.iff_,fun hd=> ?_,hk.alive⟩ (fun b hb=>.inl hb) rfl
 have k:=hk.dead hd
 refine⟨k.l0,k.l1,k.f0,by simpa using k.f1,k.fl,k.there,k.gone,fun j hj=> ?_⟩
 show nth (t.pt.set i x) j=0
 by_cases e:i=j
 ·subst e
  by_cases hlt:i<t.pt.length
  ·rw[aN hlt];exact hx hd
  ·rw[cO (by simp;omega)]
 ·rw[ai e];exact k.zero j hj
theorem San.aC(S:San D)(x:Int):San (D.aC x):=by
 unfold Wd.aC
 split
 ·exact S.mark x (fun _=>rfl) (fun _=>rfl) (fun _=>rfl)
 ·exact S
theorem San.down(S:San D)(x:Int):San (D.down x):=S.mark x (fun _=>rfl) (fun _=>rfl) (fun _=>rfl)
theorem San.up(S:San D)(x:Int):San (D.up x):=S.mark x (fun _=>rfl) (fun _=>rfl) (fun _=>rfl)
def qE(t:Th):Th:={t with mr:={t.mr with dead:=true,left:=(t.pt.length:Int),leaves:=(t.lv.length:Int)}}
theorem gI(r:Int)(t:Th):(D.lay r t).ts=bz r (fun s=>{s with mr:={s.mr with dead:=true,left:=(t.pt.length:Int),leaves:=(t.lv.length:Int)}}) D.ts:=by
 have h1:=lm ({(D.kill r).lessRing t.h with scan:=if D.scan=r then 0 else D.scan}:Wd) r (fun m=>{m with left:=(t.pt.length:Int)}) (fun m=>{m with leaves:=(t.lv.length:Int)})
 have h2:=lm D r (fun m=>{m with dead:=true}) (fun m=>{m with left:=(t.pt.length:Int),leaves:=(t.lv.length:Int)})
 show((({(D.kill r).lessRing t.h with scan:=if D.scan=r then 0 else D.scan}:Wd).mark r (fun m=>{m with left:=(t.pt.length:Int)})).mark r (fun m=>{m with leaves:=(t.lv.length:Int)})).ts=_
 rw[h1]
 show((D.kill r).mark r (fun m=>{m with left:=(t.pt.length:Int),leaves:=(t.lv.length:Int)})).ts=_
 unfold Wd.kill
 rw[h2]
 rfl
theorem San.lay(S:San D)(hf:D.find r=some t)(hd:t.mr.dead=false):San (D.lay r t):=by
 obtain⟨htl,hr⟩:=find_live hf
 have hk:=S.ok t htl
 have hts:=gI (D:=D) r t
 have he:(qE t).ended=false:=(find_at hf).2.1
 have hheads:(D.lay r t).live.map Th.h=D.live.map Th.h:=by unfold Wd.live;rw[hts];exact dA (g:=fun s=>{s with mr:={s.mr with dead:=true,left:=(t.pt.length:Int),leaves:=(t.lv.length:Int)}}) hf he rfl
 have hmem:∀s,s∈(D.lay r t).live→s=qE t∨(s∈D.live∧s.h≠t.h):=fun s hs=>by
  unfold Wd.live at hs
  rw[hts] at hs
  have:=bD (g:=fun s=>{s with mr:={s.mr with dead:=true,left:=(t.pt.length:Int),leaves:=(t.lv.length:Int)}}) S.nd hf hs
  exact this
 have hsum:=fG (φ:=bT) (g:=fun s=>{s with mr:={s.mr with dead:=true,left:=(t.pt.length:Int),leaves:=(t.lv.length:Int)}}) hf he
 have hng:t.h+1∉D.grave:=fun h=>by rw[hk.iff_.2 h] at hd;cases hd
 have hp0:bT t=0:=by unfold bT;rw[hd];rfl
 have hp1:bT (qE t)=1+t.lv.length:=by unfold bT qE;simp
 refine⟨S.w,by rw[hheads];exact S.nd,?_,fun q hq=> ?_,fun s hs=> ?_,fun s hs hb=> ?_,?_⟩
 ·show(D.grave++[t.h+1]).Nodup
  rw[List.nodup_append]
  exact⟨S.gd,by simp,fun x hx y hy=>by simp at hy;subst hy;exact fun e=>hng (e▸hx)⟩
 ·rcases List.mem_append.1 (show q∈D.grave++[t.h+1] from hq) with hq|hq
  ·obtain⟨u,hu,e⟩:=S.gv q hq
   obtain⟨u',h1,h2⟩:=aQ hheads hu
   exact⟨u',h1,by omega⟩
  ·obtain⟨u',h1,h2⟩:=aQ hheads htl
   exact⟨u',h1,by have:=List.mem_singleton.1 hq;omega⟩
 ·show QG D.w (D.grave++[t.h+1]) s
  rcases hmem s hs with rfl|⟨h,hne⟩
  ·have ha:=hk.alive hd
   refine⟨⟨hk.ql.small,hk.ql.big⟩,⟨fun _=>by show t.h+1∈_;simp,fun _=>rfl⟩,fun _=>⟨?_,?_,?_,?_,fun hl=> ?_,fun j hj=> ?_,fun j hj hj2=> ?_,fun i hi=> ?_⟩,fun h=>by cases h⟩
   ·show(0:Int)≤(t.lv.length:Int);omega
   ·show(t.lv.length:Int)≤(t.lv.length:Int);omega
   ·show(0:Int)≤(t.pt.length:Int);omega
   ·show(t.pt.length:Int)≤(t.pt.length:Int);omega
   ·show(t.pt.length:Int)≤(t.lv.length:Int)*((D.w:Int)-1)
    have hb:¬t.pt.length+t.dt.length≤D.w-8:=fun h=>hl (hk.ql.small h)
    have h2:=(hk.ql.big hb).2
    have hw:=S.w
    have e:(((t.lv.length*(D.w-1):Nat)):Int)=(t.lv.length:Int)*((D.w:Int)-1):=by rw[Int.natCast_mul];congr 1;omega
    omega
   ·have hj':(j:Int)<(t.lv.length:Int):=hj
    exact ha j (by omega)
   ·have hj':(t.lv.length:Int)≤(j:Int):=hj
    exact absurd hj2 (by show ¬j<t.lv.length;omega)
   ·have hi':(t.pt.length:Int)≤(i:Int):=hi
    show nth t.pt i=0
    exact cO (by omega)
  ·have k:=S.ok s h
   refine⟨k.ql,⟨fun hd'=>List.mem_append_left _ (k.iff_.1 hd'),fun hg=> ?_⟩,k.dead,k.alive⟩
   rcases List.mem_append.1 hg with h1|h1
   ·exact k.iff_.2 h1
   ·exact absurd (by have:=List.mem_singleton.1 h1;omega) hne
 ·have hb':s.h∈D.ring.filter (fun b=>b !=t.h):=hb
  have:=List.mem_filter.1 hb'
  rcases hmem s hs with rfl|⟨h,hne⟩
  ·have h2:(qE t).h≠t.h:=by simpa using this.2
   exact absurd rfl h2
  ·exact S.ring s h this.1
 ·show D.pending+(1+(t.lv.length:Int))=_
  have:=S.pend
  rw[hts]
  have e:au bT (bz r (fun s=>{s with mr:={s.mr with dead:=true,left:=(t.pt.length:Int),leaves:=(t.lv.length:Int)}}) D.ts)+bT t=au bT D.ts+bT (qE t):=hsum
  omega
theorem San.bury(S:San D)(x:Int):San (D.bury x):=by
 unfold Wd.bury
 cases hf:D.find x with
 |none=>exact S
 |some t=>
  simp only
  cases hd:t.mr.dead with
  |true=>simpa using S
  |false=>simpa using S.lay hf hd
theorem San.inter(S:San D)(x:Int):San (D.inter x):=by
 unfold Wd.inter
 split
 ·exact S.bury x
 ·exact S
theorem San.drain(S:San D)(hf:D.find r=some t)(i:Nat)(x:Int):San (D.drain r i x):=by
 have S1:=S.setP hf i (x:=0) (fun _=>rfl)
 have key:∀D2:Wd,San D2→San (if(D2.down x).cnt x=0 then(D2.down x).bury x else D2.down x):=fun D2 S2=>by
  split
  ·exact(S2.down x).bury x
  ·exact S2.down x
 unfold Wd.drain
 by_cases hc:(D.setP r i 0).cnt x=0
 ·rw[if_pos hc];exact S1
 ·rw[if_neg hc]
  refine key _ ?_
  split
  ·exact S1.aC x
  ·exact S1
end
section
variable {c:Cf} {D D':Wd} {zs zs':List Int} {t:Th} {r:Int}
theorem IG(hf:D.find r=some t)(hd:t.mr.dead=true):D.kill r=D:=by
 obtain⟨i,hi,ht⟩:=jI hf
 unfold Wd.kill Wd.mark Wd.upd
 rw[Bp hi ht,show({t with mr:={t.mr with dead:=true}}:Th)=t by rw[←hd],qY ht]
theorem av.sizes(R:av c zs D)(hz:Wz c zs)(htl:t∈D.live):t.pt.length+t.dt.length≤100000∧t.lv.length≤248:=by
 obtain⟨p,w,hG⟩:=Bu hz
 have h1:=vW (s:=⟨zs,0⟩) hG R.heap (R.obMem htl)
 have h2:=(R.heap.obs t.ob (R.obMem htl)).KW hz.may
 have hw:=hz.may.w
 have e:t.ob.lv.length=t.lv.length:=by unfold Th.ob;simp
 have e1:t.ob.np=t.pt.length:=rfl
 have e2:t.ob.nd=t.dt.length:=rfl
 omega
theorem Pb(hz:Wz c zs)(R:av c zs D)(hf:D.find r=some t):∃zs' d b,d≤10∧Run c 135 [.int .i64 (t.h:Int)] zs d zs' (.bool b)∧av c zs' (D.lessRing t.h):=by
 obtain⟨h1,h2,h3,h4,h5⟩:=R.fH hf
 by_cases hin:t.h∈D.ring
 ·exact⟨_,10,true,by omega,fun p m w hG=>ww p c ⟨zs,m⟩ t.h D.ring w hG R.ring hin,wN R hz hf hin⟩
 ·have hlt:=R.hlt (find_live hf).1
  have e:D.lessRing t.h=D:=by
   unfold Wd.lessRing
   rw[List.filter_eq_self.2 (fun x hx=>by simp;exact fun e=>hin (e▸hx))]
  refine⟨zs,_,false,?_,fun p m w hG=>zg p c ⟨zs,m⟩ (t.h:Int) (nth zs (adr c t.h 0)) w hG (oQ hz.may hlt) (.inr ⟨kZ h2,decide_eq_false (fun h=> ?_)⟩),by rw[e];exact R⟩
  ·have:=gB (aB c (t.h:Int) 0);omega
  ·rw[R.ring.QQ hlt hin] at h
   exact absurd h (by decide)
theorem KF(hz:Wz c zs)(R:av c zs D)(hr:In64 r):∃d,d≤2∧Run c 33 [.int .i64 r] zs d zs (.int .i64 (D.cnt r)):=by
 cases hf:D.find r with
 |none=>
  rw[show D.cnt r=0 by unfold Wd.cnt;rw[hf]]
  exact⟨_,by have:=gB (aB c (prev r) 0);omega,fun p m w hG=>Kh (s:=⟨zs,m⟩) hG R.heap hr (gW R hf)⟩
 |some t=>
  obtain⟨htl,rfl⟩:=find_live hf
  rw[show D.cnt ((t.h:Int)+1)=t.mr.refs by unfold Wd.cnt;rw[hf],←(R.own t htl).w3]
  exact⟨2,by omega,fun p m w hG=>Ip (s:=⟨zs,m⟩) (o:=t.ob) hG R.heap (R.obMem htl)⟩
theorem av.Ra(R:av c zs D)(hz:Wz c zs)(htl:t∈D.live):0≤t.mr.refs∧t.mr.refs≤4294967295:=by
 rw[←(R.own t htl).w3]
 exact hz.wf _
theorem zQ(hz:Wz c zs)(R:av c zs D)(hf:D.find r=some t)(h0:t.mr.refs≠0):∃zs',Run c 111 [.int .i64 r] zs 3 zs' (.tuple #[.int .i64 (t.mr.refs-1),.bool true])∧av c zs' (D.down r):=by
 obtain⟨htl,rfl⟩:=find_live hf
 have hb:=R.Ra hz htl
 have e3:=(R.own t htl).w3
 refine⟨zs.set (adr c t.h 3) (t.mr.refs-1),fun p m w hG=>zH (pE (s:=⟨zs,m⟩) (o:=t.ob) (-1) (t.mr.refs-1) hG R.heap (R.obMem htl) (by omega) (by omega) (by show nth zs (adr c t.h 3)+ -1=_;rw[e3];omega) (by omega) (by omega)) ⟨_,_,rfl⟩,?_⟩
 exact R.nZ hz.may hz.len hf (v:=3) (.inl rfl) (x:=t.mr.refs-1) (f:=fun m=>{m with refs:=m.refs-1}) rfl
theorem yA(hz:Wz c zs)(R:av c zs D)(hf:D.find r=some t)(hd:t.mr.dead=true)(hn:t.h∉D.ring)(hg:t.h+1∉D.grave):
  Run c 110 [.int .i64 ((t.h:Int)+1)] zs 3 zs (.tuple #[.int .i64 (t.pt.length:Int),.int .i64 (t.dt.length:Int),.int .i64 0])∧Run c 26 [.int .i64 ((t.h:Int)+1)] zs 3 zs (.int .i64 (1+(t.lv.length:Int)))∧
  Run c 93 [.int .i64 1,.int .i64 (t.h:Int)] ((zs.set (adr c t.h 6) (t.pt.length:Int)).set (adr c t.h 7) (t.lv.length:Int)) 6 (iT c 1 t.h ((zs.set (adr c t.h 6) (t.pt.length:Int)).set (adr c t.h 7) (t.lv.length:Int))) (.bool true)∧
  nth (iT c 1 t.h ((zs.set (adr c t.h 6) (t.pt.length:Int)).set (adr c t.h 7) (t.lv.length:Int))) 6=D.pending∧
  av c ((iT c 1 t.h ((zs.set (adr c t.h 6) (t.pt.length:Int)).set (adr c t.h 7) (t.lv.length:Int))).set 6 (D.pending+(1+(t.lv.length:Int)))) {(D.mark r (fun m=>{m with left:=(t.pt.length:Int)})).mark r (fun m=>{m with leaves:=(t.lv.length:Int)}) with grave:=D.grave++[t.h+1],pending:=D.pending+(1+(t.lv.length:Int))}:=by
 have hm:=hz.may
 have hw:=hm.w
 obtain⟨htl,hr⟩:=find_live hf
 have hlt:=R.hlt htl
 have hs:=R.sizes hz htl
 have elv:t.ob.lv.length=t.lv.length:=by unfold Th.ob;simp
 have R1:av c (zs.set (adr c t.h 6) (t.pt.length:Int)) (D.mark r (fun m=>{m with left:=(t.pt.length:Int)})):=R.He hm hz.len hf (v:=6) (.inl rfl) (by rw[if_pos rfl]) hn
 have hz1:Wz c (zs.set (adr c t.h 6) (t.pt.length:Int)):=hz.set _ (by omega) (by omega)
 have hf1:=mark_find (fun m=>{m with left:=(t.pt.length:Int)}) hf
 have R2:av c ((zs.set (adr c t.h 6) (t.pt.length:Int)).set (adr c t.h 7) (t.lv.length:Int)) ((D.mark r (fun m=>{m with left:=(t.pt.length:Int)})).mark r (fun m=>{m with leaves:=(t.lv.length:Int)})):=R1.He hm hz1.len hf1 (v:=7) (.inr rfl) (by rw[if_neg (by decide)]) hn
 have hz2:Wz c ((zs.set (adr c t.h 6) (t.pt.length:Int)).set (adr c t.h 7) (t.lv.length:Int)):=hz1.set _ (by omega) (by omega)
 have hf2:=mark_find (fun m=>{m with leaves:=(t.lv.length:Int)}) hf1
 have h67:adr c t.h 6≠adr c t.h 7:=fun e=>by have:=(ax (c:=c) (by omega) (by omega) e).2;omega
 have h6:nth ((zs.set (adr c t.h 6) (t.pt.length:Int)).set (adr c t.h 7) (t.lv.length:Int)) (adr c t.h 6)=(t.pt.length:Int):=by
  rw[ai (Ne.symm h67),aN (by rw[hz.len];exact fu hlt (by omega))]
 have h7:nth ((zs.set (adr c t.h 6) (t.pt.length:Int)).set (adr c t.h 7) (t.lv.length:Int)) (adr c t.h 7)=(t.lv.length:Int):=aN (by simp;rw[hz.len];exact fu hlt (by omega)) _
 have R3:=R2.KI hm hz2.len hf2 hd h6 h7 hn hg
 have R4:=R3.AJ hm (by rw[jh];exact hz2.len) (D.pending+(1+(t.lv.length:Int)))
 refine⟨fun p m w hG=>nR (s:=⟨zs,m⟩) (o:=t.ob) hG R.heap (R.obMem htl),fun p m w hG=> ?_,fun p m w hG=> ?_,R3.r6,R4⟩
 ·have:=kN (s:=⟨zs,m⟩) (o:=t.ob) hG R.heap (R.obMem htl)
  rw[elv] at this
  exact this
 ·exact yC p c ⟨_,m⟩ 1 t.h (D.grave.map (· -1)) w hG R2.grave (by omega) hlt (fun h=>by
   obtain⟨q,hq,e⟩:=List.mem_map.1 h
   obtain⟨u,hu,e2⟩:=R.gv q hq
   have:t.h+1=q:=by omega
   exact hg (this▸hq))
theorem Gv(hr:In64 r)(hp0:0≤D.pending)(hp1:D.pending≤4294900000):Does c D 75 [.int .i64 r] 40 (D.bury r) (.bool (D.buryB r)):=fun zs hz R=>by
 obtain⟨zs1,⟨d1,hd1,C1⟩,R1,hz1⟩:=(AY c D r hr).at hz R
 cases hf:D.find r with
 |none=>
  rw[show((D.find r).isSome&& !D.dead r)=false by rw[hf];rfl] at C1
  rw[show D.kill r=D from bG _ hf] at R1
  rw[show D.buryB r=false by unfold Wd.buryB;rw[hf],show D.bury r=D by unfold Wd.bury;rw[hf]]
  exact⟨zs1,⟨d1,by omega,vG C1⟩,R1⟩
 |some t=>
  have ed:D.dead r=t.mr.dead:=by unfold Wd.dead;rw[hf]
  cases hd:t.mr.dead with
  |true=>
   rw[show((D.find r).isSome&& !D.dead r)=false by rw[hf,ed,hd];rfl] at C1
   rw[IG hf hd] at R1
   rw[show D.buryB r=false by unfold Wd.buryB;rw[hf];simp[hd],show D.bury r=D by unfold Wd.bury;rw[hf];simp[hd]]
   exact⟨zs1,⟨d1,by omega,vG C1⟩,R1⟩
  |false=>
   rw[show((D.find r).isSome&& !D.dead r)=true by rw[hf,ed,hd];rfl] at C1
   rw[show D.buryB r=true by unfold Wd.buryB;rw[hf];simp[hd],show D.bury r=D.lay r t by unfold Wd.bury;rw[hf];simp[hd]]
   obtain⟨htl,hrr⟩:=find_live hf
   have hlt:=R.hlt htl
   have hs:=R.sizes hz htl
   have hs1:t.pt.length≤100000:=by omega
   have hs2:t.lv.length≤1000:=by omega
   have hf1:(D.kill r).find r=some {t with mr:={t.mr with dead:=true}}:=mark_find _ hf
   obtain⟨zs2,d2,b2,hd2,C2,R2⟩:=Pb hz1 R1 hf1
   have hz2:Wz c zs2:=gY.wz hz1 ⟨d2,Nat.le_refl _,C2⟩
   have hng:t.h+1∉D.grave:=fun hg=>by
    have:=(R.bur t htl hg).1
    rw[hd] at this
    cases this
   have hnr:t.h∉D.ring.filter (fun b=>b !=t.h):=fun h=>by
    have:=(List.mem_filter.1 h).2
    simp at this
   have h14:nth zs2 14=D.scan:=R2.reg 14 (by omega) (by omega)
   subst hrr
   by_cases hx:D.scan=(t.h:Int)+1
   ·have R3:av c (zs2.set 14 0) {(D.kill ((t.h:Int)+1)).lessRing t.h with scan:=0}:=by
     refine R2.jv hz2.may hz2.len (k:=14) (by omega) (by omega) rfl rfl rfl rfl rfl rfl rfl rfl (fun j h1 h2 h3=> ?_) R.par
     have:j=10∨j=11∨j=12∨j=13∨j=15∨j=16∨j=17∨j=18:=by omega
     rcases this with rfl|rfl|rfl|rfl|rfl|rfl|rfl|rfl<;>rfl
    have hz3:Wz c (zs2.set 14 0):=hz2.set _ (by omega) (by omega)
    obtain⟨C3,C4,C5,h6,R4⟩:=yA hz3 R3 (t:={t with mr:={t.mr with dead:=true}}) hf1 rfl hnr hng
    refine⟨_,⟨_,?_,zT hz.may hlt C1 C2 (h14.trans hx) C3 C4 hs1 hs2 C5 h6 hp0 hp1⟩,?_⟩
    ·omega
    ·have e:D.lay ((t.h:Int)+1) t={(({(D.kill ((t.h:Int)+1)).lessRing t.h with scan:=0}:Wd).mark ((t.h:Int)+1) (fun m=>{m with left:=(t.pt.length:Int)})).mark ((t.h:Int)+1) (fun m=>{m with leaves:=(t.lv.length:Int)}) with grave:=D.grave++[t.h+1],pending:=D.pending+(1+(t.lv.length:Int))}:=by
      unfold Wd.lay
      rw[if_pos hx]
     rw[e]
     exact R4
   ·have e0:({(D.kill ((t.h:Int)+1)).lessRing t.h with scan:=D.scan}:Wd)=(D.kill ((t.h:Int)+1)).lessRing t.h:=rfl
    obtain⟨C3,C4,C5,h6,R4⟩:=yA hz2 R2 (t:={t with mr:={t.mr with dead:=true}}) hf1 rfl hnr hng
    refine⟨_,⟨_,?_,zS hz.may hlt C1 C2 h14 hx C3 C4 hs1 hs2 C5 h6 hp0 hp1⟩,?_⟩
    ·omega
    ·have e:D.lay ((t.h:Int)+1) t={(((D.kill ((t.h:Int)+1)).lessRing t.h).mark ((t.h:Int)+1) (fun m=>{m with left:=(t.pt.length:Int)})).mark ((t.h:Int)+1) (fun m=>{m with leaves:=(t.lv.length:Int)}) with grave:=D.grave++[t.h+1],pending:=D.pending+(1+(t.lv.length:Int))}:=by
      unfold Wd.lay
      rw[if_neg hx]
      rfl
     rw[e]
     exact R4
theorem vD(hr:In64 r)(hp0:0≤D.pending)(hp1:D.pending≤4294900000):Does c D 17 [.int .i64 r] 42 (D.inter r) (.bool (D.KO r)):=fun zs hz R=>by
 obtain⟨d1,hd1,C1⟩:=KF hz R hr
 unfold Wd.inter Wd.KO
 by_cases h0:D.cnt r=0
 ·rw[h0] at C1
  obtain⟨zs2,⟨d2,hd2,C2⟩,R2⟩:=Gv (c:=c) hr hp0 hp1 zs hz R
  rw[if_pos h0,decide_eq_true h0,Bool.true_and]
  exact⟨zs2,⟨d1+d2,by omega,Nc C1 C2⟩,R2⟩
 ·rw[if_neg h0,decide_eq_false h0,Bool.false_and]
  exact⟨zs,⟨d1,by omega,xz h0 C1⟩,R⟩
theorem zi{i:Nat}{x:Int}(q:Int):(D.setP r i x).find q=(D.find q).map (fun t=>if t.at r then {t with pt:=t.pt.set i x} else t):=kW (g:=fun t=>{t with pt:=t.pt.set i x}) (fun t=>⟨rfl,rfl⟩) q
theorem qF(q:Int):∀t,D.find q=some t→∃f:Mrk→Mrk,(D.aC r).find q=some {t with mr:=f t.mr}∧(f t.mr).refs=t.mr.refs∧(f t.mr).dead=t.mr.dead∧(f t.mr).left=t.mr.left∧(f t.mr).leaves=t.mr.leaves:=fun t hf=>by
 unfold Wd.aC
 split
 ·rw[find_mark,hf]
  by_cases e:t.at r=true
  ·exact⟨fun m=>{m with shadow:=m.shadow-1},by simp[e],rfl,rfl,rfl,rfl⟩
  ·exact⟨id,by simp[e],rfl,rfl,rfl,rfl⟩
 ·exact⟨id,by simpa using hf,rfl,rfl,rfl,rfl⟩
theorem iK(x:Int):(D.aC x).pending=D.pending∧(D.aC x).grave=D.grave∧(D.aC x).ring=D.ring∧(D.aC x).scan=D.scan∧(D.aC x).clean=D.clean∧(D.aC x).n=D.n∧(D.aC x).w=D.w:=by
 unfold Wd.aC
 split<;>exact⟨rfl,rfl,rfl,rfl,rfl,rfl,rfl⟩
theorem qU(hz:Wz c zs)(R:av c zs D)(hr:In64 r)(hf:D.find r=some t){i a:Nat}(hi:i<t.pt.length)(ha:aS c t.ob i=some a):(∃d,d≤12∧Run c 70 [.int .i64 r,.int .i64 (i:Int)] zs d zs (.tuple #[.int .i64 (nth t.pt i),.int .i64 0]))∧0≤nth t.pt i∧nth t.pt i≤4294967295:=by
 obtain⟨htl,_⟩:=find_live hf
 have hob:=obAt_find R r
 rw[hf] at hob
 have hv:=R.tF t htl i a (by unfold Th.ob Ob.f;simp;omega) ha
 have hfl:t.tF i=nth t.pt i:=by unfold Th.tF;rw[if_pos hi]
 have e1:qR c zs D.obs r (i:Int)=nth t.pt i:=by
  unfold qR
  rw[hob]
  show(if jG (i:Int) t.ob.np then fK c zs t.ob (i:Int).toNat else 0)=_
  rw[if_pos (iX (show i<t.ob.np from hi)),Int.toNat_natCast]
  unfold fK
  rw[ha,←hfl]
  exact hv
 have e2:qQ c D.obs r (i:Int)=0:=by
  unfold qQ
  rw[hob]
  show(if jG (i:Int) t.ob.np&&(aS c t.ob (i:Int).toNat).isSome then(0:Int) else 7)=0
  rw[iX (show i<t.ob.np from hi),Int.toNat_natCast,ha]
  rfl
 obtain⟨d,hd,C⟩:=objFns.ptr c zs D.clean D.obs r (i:Int) hz R.heap hr
 rw[e1,e2] at C
 refine⟨⟨d,hd,C⟩,?_⟩
 rw[←hfl,←hv]
 exact hz.wf a
theorem mE(hz:Wz c zs)(R:av c zs D)(hf:D.find r=some t){i a:Nat}(hi:i<t.pt.length)(ha:aS c t.ob i=some a){x:Int}(h0:0≤x)(h1:x≤(c.N:Int)):(∃d,d≤12∧Run c 71 [.int .i64 r,.int .i64 (i:Int),.int .i64 x] zs d (zs.set a x) (.int .i64 0))∧av c (zs.set a x) (D.setP r i x)∧Wz c (zs.set a x):=by
 obtain⟨htl,rfl⟩:=find_live hf
 have hn:=hz.may.n
 obtain⟨d,hd,C⟩:=objFns.setptr_yes c zs D.clean D.obs t.ob i a x hz R.heap (R.obMem htl) hi ha h0 h1
 exact⟨⟨d,hd,C⟩,R.Qh hz.may hz.len hf hi ha x,hz.set _ h0 (by omega)⟩
theorem KE(hf:D.find r=some t){i a:Nat}(hi:i<t.pt.length)(ha:aS c t.ob i=some a)(hp0:0≤D.pending)(hp1:D.pending≤4294900000):Does c D 145 [.int .i64 r,.int .i64 (i:Int)] 84 (D.drain r i (nth t.pt i)) (.tuple #[]):=fun zs hz R=>by
 have hr:In64 r:=by
  obtain⟨htl,rfl⟩:=find_live hf
  exact R.heap.vH hz.may (R.obMem htl)
 obtain⟨⟨d1,hd1,C1⟩,hx0,hx1⟩:=qU hz R hr hf hi ha
 obtain⟨⟨d2,hd2,C2⟩,R2,hz2⟩:=mE hz R hf hi ha (x:=0) (Int.le_refl 0) (by omega)
 generalize hx:nth t.pt i=x at C1 hx0 hx1
 have hxr:In64 x:=by unfold In64;omega
 obtain⟨d3,hd3,C3⟩:=KF hz2 R2 hxr
 unfold Wd.drain
 by_cases hc:(D.setP r i 0).cnt x=0
 ·rw[if_pos hc]
  rw[hc] at C3
  exact⟨_,⟨d1+d2+d3,by omega,xC C1 C2 C3⟩,R2⟩
 ·rw[if_neg hc]
  cases hu:(D.setP r i 0).find x with
  |none=>exact absurd (by unfold Wd.cnt;rw[hu]) hc
  |some u=>
   have hcu:(D.setP r i 0).cnt x=u.mr.refs:=by unfold Wd.cnt;rw[hu]
   obtain⟨zs3,⟨d4,hd4,C4⟩,R3,hz3⟩:=(nk c (D.setP r i 0) r (i:Int) hr).at hz2 R2
   have K:∃(D3:Wd) (zs4:List Int) (d5:Nat) (u3:Th),D3=(if(D.setP r i 0).counted r i then(D.setP r i 0).aC x else D.setP r i 0)∧d5≤9∧uT c x ((D.setP r i 0).counted r i) zs3 d5 zs4∧av c zs4 D3∧Wz c zs4∧D3.find x=some u3∧u3.mr.refs=u.mr.refs∧D3.pending=D.pending:=by
    cases hcb:(D.setP r i 0).counted r i with
    |true=>
     obtain⟨zs4,⟨d5,hd5,C5⟩,R4,hz4⟩:=(ut c (D.setP r i 0) x hxr).at hz3 R3
     obtain⟨f,hf3,e1,_⟩:=qF (D:=D.setP r i 0) (r:=x) x u hu
     exact⟨_,zs4,d5,_,by rw[if_pos rfl],by omega,.inl ⟨rfl,_,C5⟩,R4,hz4,hf3,e1,(iK x).1⟩
    |false=>exact⟨_,zs3,0,u,by rw[if_neg (by decide)],by omega,.inr ⟨rfl,rfl,rfl⟩,R3,hz3,hu,rfl,rfl⟩
   obtain⟨D3,zs4,d5,u3,hD3,hd5,C5,R4,hz4,hu3,e3,ep⟩:=K
   rw[←hD3]
   have hn0:u3.mr.refs≠0:=by rw[e3,←hcu];exact hc
   obtain⟨zs5,C6,R5⟩:=zQ hz4 R4 hu3 hn0
   have hz5:Wz c zs5:=gY.wz hz4 ⟨3,Nat.le_refl _,C6⟩
   have hcd:(D3.down x).cnt x=u3.mr.refs-1:=by unfold Wd.cnt Wd.down;rw[mark_find _ hu3]
   show ∃zs',gY c _ _ zs 84 zs' _∧av c zs' (if(D3.down x).cnt x=0 then(D3.down x).bury x else D3.down x)
   by_cases hk:u3.mr.refs-1=0
   ·rw[hcd,if_pos hk]
    rw[hk] at C6
    obtain⟨zs6,⟨d7,hd7,C7⟩,R6⟩:=Gv (c:=c) (D:=D3.down x) hxr (by show 0≤D3.pending;rw[ep];exact hp0) (by show D3.pending≤_;rw[ep];exact hp1) zs5 hz5 R5
    exact⟨zs6,⟨d1+d2+d3+d4+d5+3+d7,by omega,xA C1 C2 C3 hc C4 C5 C6 C7⟩,R6⟩
   ·rw[hcd,if_neg hk]
    exact⟨zs5,⟨d1+d2+d3+d4+d5+3,by omega,xB C1 C2 C3 hc C4 C5 C6 hk⟩,R5⟩
end
section
variable {c:Cf} {D D':Wd} {zs zs':List Int} {t s:Th} {r:Int}
theorem Ik{q:Int}(hf:D.find q=some t)(hd:t.mr.dead=true)(x:Int):(D.bury x).find q=some t:=by
 unfold Wd.bury
 cases hx:D.find x with
 |none=>exact hf
 |some u=>
  simp only
  cases hu:u.mr.dead with
  |true=>simpa using hf
  |false=>
   simp only[Bool.false_eq_true,if_false]
   have hts:=gI (D:=D) x u
   show aP q (D.lay x u).ts=some t
   rw[hts,iy (g:=fun s=>{s with mr:={s.mr with dead:=true,left:=(u.pt.length:Int),leaves:=(u.lv.length:Int)}}) (fun t=>⟨rfl,rfl⟩)]
   have hf':aP q D.ts=some t:=hf
   rw[hf']
   have:¬t.at x=true:=fun h=>by
    have e1:=find_at hf
    have e2:=find_at hx
    unfold Th.at at h
    simp at h
    have:q=x:=by omega
    subst this
    rw[hf] at hx
    cases hx
    rw[hd] at hu
    cases hu
   simp[this]
theorem Il(x:Int){b:Nat}(h:b∈(D.bury x).ring):b∈D.ring:=by
 unfold Wd.bury at h
 cases hx:D.find x with
 |none=>rw[hx] at h;exact h
 |some u=>
  rw[hx] at h
  simp only at h
  split at h
  ·exact h
  ·exact(List.mem_filter.1 (show b∈D.ring.filter (fun b=>b !=u.h) from h)).1
theorem rJ(x:Int):(D.bury x).clean=D.clean∧(D.bury x).n=D.n∧(D.bury x).w=D.w:=by
 unfold Wd.bury
 cases D.find x with
 |none=>exact⟨rfl,rfl,rfl⟩
 |some u=>
  simp only
  split
  ·exact⟨rfl,rfl,rfl⟩
  ·exact⟨rfl,rfl,rfl⟩
theorem pV(hf:D.find r=some t)(hd:t.mr.dead=true)(i:Nat)(x:Int):∃f:Mrk→Mrk,(D.drain r i x).find r=some {t with pt:=t.pt.set i 0,mr:=f t.mr}∧(f t.mr).dead=true∧(f t.mr).left=t.mr.left∧(f t.mr).leaves=t.mr.leaves:=by
 have hf1:(D.setP r i 0).find r=some {t with pt:=t.pt.set i 0}:=by rw[zi,hf];simp[find_at_r hf]
 have key:∀D2:Wd,∀u:Th,D2.find r=some u→u.mr.dead=true→∃f:Mrk→Mrk,(if(D2.down x).cnt x=0 then(D2.down x).bury x else D2.down x).find r=some {u with mr:=f u.mr}∧(f u.mr).dead=true∧(f u.mr).left=u.mr.left∧(f u.mr).leaves=u.mr.leaves:=fun D2 u hu hdu=>by
  have h1:∃f:Mrk→Mrk,(D2.down x).find r=some {u with mr:=f u.mr}∧(f u.mr).dead=true∧(f u.mr).left=u.mr.left∧(f u.mr).leaves=u.mr.leaves:=by
   unfold Wd.down
   rw[find_mark,hu]
   by_cases e:u.at x=true
   ·exact⟨fun m=>{m with refs:=m.refs-1},by simp[e],hdu,rfl,rfl⟩
   ·exact⟨id,by simp[e],hdu,rfl,rfl⟩
  obtain⟨f,h1,h2,h3,h4⟩:=h1
  refine⟨f,?_,h2,h3,h4⟩
  split
  ·exact Ik h1 h2 x
  ·exact h1
 unfold Wd.drain
 by_cases hc:(D.setP r i 0).cnt x=0
 ·rw[if_pos hc];exact⟨id,hf1,hd,rfl,rfl⟩
 ·rw[if_neg hc]
  have h2:∃f:Mrk→Mrk,(if(D.setP r i 0).counted r i then(D.setP r i 0).aC x else D.setP r i 0).find r=some {t with pt:=t.pt.set i 0,mr:=f t.mr}∧(f t.mr).dead=true∧(f t.mr).left=t.mr.left∧(f t.mr).leaves=t.mr.leaves:=by
   split
   ·obtain⟨f,h1,_,h3,h4,h5⟩:=qF (D:=D.setP r i 0) (r:=x) r _ hf1
    exact⟨f,h1,h3.trans hd,h4,h5⟩
   ·exact⟨id,hf1,hd,rfl,rfl⟩
  obtain⟨f,h1,h3,h4,h5⟩:=h2
  obtain⟨f2,k1,k3,k4,k5⟩:=key _ _ h1 h3
  exact⟨fun m=>f2 (f m),k1,k3,k4.trans h4,k5.trans h5⟩
theorem EG(i:Nat)(x:Int){b:Nat}(h:b∈(D.drain r i x).ring):b∈D.ring:=by
 unfold Wd.drain at h
 by_cases hc:(D.setP r i 0).cnt x=0
 ·rw[if_pos hc] at h;exact h
 ·rw[if_neg hc] at h
  have e2:(if(D.setP r i 0).counted r i then(D.setP r i 0).aC x else D.setP r i 0).ring=D.ring:=by
   split
   ·exact(iK (D:=D.setP r i 0) x).2.2.1
   ·rfl
  simp only at h
  have h':b∈((if(D.setP r i 0).counted r i then(D.setP r i 0).aC x else D.setP r i 0).down x).ring:=by
   by_cases h0:((if(D.setP r i 0).counted r i then(D.setP r i 0).aC x else D.setP r i 0).down x).cnt x=0
   ·rw[if_pos h0] at h;exact Il x h
   ·rw[if_neg h0] at h;exact h
  have h'':b∈(if(D.setP r i 0).counted r i then(D.setP r i 0).aC x else D.setP r i 0).ring:=h'
  rw[e2] at h''
  exact h''
theorem iI:∀(l:List Int) (k:Nat),k≤l.length→(∀j,j<k→∃b:Nat,l[j]? =some (b:Int))→(∀j,k≤j→j<l.length→l[j]? =some (-1))→((l.map (fun x=>(x+1).toNat)).filterMap (fun n=>if n=0 then none else some (n-1))).length=k
 |[],k,hk,_,_=>by simp at hk;simp[hk]
 |a::l,0,_,_,h2=>by
  have h0:=h2 0 (by omega) (by simp)
  simp at h0
  subst h0
  have:=iI l 0 (by omega) (fun j hj=>absurd hj (by omega)) (fun j _ hj=>by simpa using h2 (j+1) (by omega) (by simpa using hj))
  simpa using this
 |a::l,k+1,hk,h1,h2=>by
  obtain⟨b,hb⟩:=h1 0 (by omega)
  simp at hb
  subst hb
  have:=iI l k (by simpa using hk) (fun j hj=>by simpa using h1 (j+1) (by omega)) (fun j hj hj2=>by simpa using h2 (j+1) (by omega) (by simpa using hj2))
  rw[List.map_cons,List.filterMap_cons]
  have e:((b:Int)+1).toNat=b+1:=by omega
  rw[e]
  simp only[Nat.add_eq_zero_iff,Nat.one_ne_zero,and_false,if_false,List.length_cons]
  rw[this]
theorem QG.Sm{w:Nat}{gr:List Nat}(k:QG w gr t):t.ob.blocks.length=occT t:=by
 unfold Ob.blocks Ob.leaves Th.ob occT
 rw[List.length_cons]
 cases hd:t.mr.dead with
 |true=>
  have d:=k.dead hd
  rw[if_pos rfl,iI t.lv t.mr.leaves.toNat (by have:=d.l0;have:=d.l1;omega) (fun j hj=>d.there j (by omega)) (fun j hj hj2=>d.gone j (by have:=d.l0;omega) hj2)]
  omega
 |false=>
  have a:=k.alive hd
  rw[if_neg (by decide),iI t.lv t.lv.length (Nat.le_refl _) (fun j hj=>a j hj) (fun j hj hj2=>absurd hj2 (by omega))]
  omega
theorem Cj:∀l:List Th,(l.map Th.ob |>.flatMap Ob.blocks).length=(l.map (fun t=>t.ob.blocks.length)).sum
 |[]=>rfl
 |u::l=>by simp[Cj l]
theorem San.total(S:San D)(R:av c zs D):D.clean.length+au occT D.ts=c.N:=by
 have h:=R.heap.perm.length_eq
 rw[List.length_append,List.length_range] at h
 have e:(D.obs.flatMap Ob.blocks).length=au occT D.ts:=by
  have h1:D.obs.flatMap Ob.blocks=(D.live.map Th.ob).flatMap Ob.blocks:=rfl
  rw[h1,Cj]
  unfold au
  congr 1
  exact List.map_congr_left (fun t ht=>(S.ok t ht).Sm)
 omega
theorem Lm(t:Th):bT t≤occT t:=by unfold bT occT;split<;>omega
theorem San.vZ(S:San D)(R:av c zs D)(hm:c.May):0≤D.pending∧D.pending≤1048576:=by
 have h1:=S.total R
 have h2:=uP (φ:=bT) (ψ:=occT) (l:=D.ts) (fun t _=>Lm t)
 have h3:=S.pend
 have h4:=hm.n
 omega
theorem San.NF(S:San D)(ht:t∈D.live)(hd:t.mr.dead=true):0<D.pending:=by
 have h1:=rz (φ:=bT) ht
 have h2:1≤bT t:=by unfold bT;rw[hd,if_pos rfl];omega
 have:=S.pend
 have h3:au bT D.ts=au bT D.ts:=rfl
 unfold Wd.live at ht
 omega
theorem Ru.field{w:Nat}(hm:c.May)(hw:c.W=w)(d:Ru w t)(g:Geo w t){i:Nat}(hi:(i:Int)<t.mr.left):i<t.pt.length∧∃a,aS c t.ob i=some a:=by
 have hW:=hm.w
 have h1:i<t.pt.length:=by have:=d.f1;omega
 refine⟨h1,?_⟩
 have ef:t.ob.f=t.pt.length+t.dt.length:=rfl
 by_cases hs:t.ob.f≤c.W-8
 ·exact⟨_,by unfold aS;rw[iE hs];rfl⟩
 ·have hb:=(g.big (by rw[←hw];omega)).1
  have hl:=d.fl hb
  have hq:(i/(c.W-1):Nat)<t.mr.leaves.toNat:=by
   rw[Nat.div_lt_iff_lt_mul (by omega)]
   have e:((t.mr.leaves.toNat*(c.W-1):Nat):Int)=t.mr.leaves*((w:Int)-1):=by
    rw[Int.natCast_mul,Int.toNat_of_nonneg d.l0]
    congr 1
    omega
   omega
  obtain⟨b,hb⟩:=d.there (i/(c.W-1)) (by have:=d.l0;omega)
  exact⟨_,by unfold aS;rw[iY hs (Cy hb)];rfl⟩
theorem MJ(R:av c zs D)(l:Int):D.ahead l=jo c.W l:=by unfold Wd.ahead jo;rw[R.w]
theorem Ir{k:Nat}(R:av c zs D){g:Nat}{rest:List Nat}(hg:D.grave=g::rest)(hk:k=g-1):Run c 92 [.int .i64 1] zs 1 zs (.tuple #[.int .i64 (k:Int),.bool true]):=fun p m w hG=>by
 have hC:=R.grave
 rw[hg,List.map_cons,←hk] at hC
 exact BL p c ⟨zs,m⟩ 1 k (rest.map (· -1)) w hG hC (by omega)
set_option maxHeartbeats 1000000 in
theorem MU(S:San D):Does c D 79 [] 90 D.step (.tuple #[.bool D.gives,.bool (!D.grave.isEmpty)]):=fun zs hz R=>by
 have hm:=hz.may
 have hw:=hm.w
 unfold Wd.step Wd.gives
 cases hg:D.grave with
 |nil=>
  have hC:=R.grave
  rw[hg] at hC
  exact⟨zs,⟨_,by show Rx 1≤90;decide,zU (fun p m w hG=>sZ p c ⟨zs,m⟩ 1 w hG (.inr ⟨1,rfl,by omega,hC⟩))⟩,R⟩
 |cons g rest=>
  obtain⟨t,htl,e⟩:=S.gv g (by rw[hg];simp)
  have hf:D.find (g:Int)=some t:=by have:=R.findIt htl;rwa[show((t.h:Int)+1)=(g:Int) by omega] at this
  have hk:=S.ok t htl
  have hd:t.mr.dead=true:=hk.iff_.2 (by rw[e,hg];simp)
  have d:=hk.dead hd
  have hgm:t.h+1∈D.grave:=by rw[e,hg];simp
  obtain⟨_,b6,b7,bn⟩:=R.bur t htl hgm
  have hs:=R.sizes hz htl
  have hlt:=R.hlt htl
  have hge:(g:Int)=(t.h:Int)+1:=by omega
  have C1:=Ir R hg (k:=t.h) (by omega)
  have hpb:=S.vZ R hm
  have hpp:=S.NF htl hd
  have hpl:D.pending≤4294967295:=by omega
  simp only[hf]
  rw[hge] at hf
  have hl0:=d.l0
  have hl1:=d.l1
  have hf0:=d.f0
  have hf1:=d.f1
  unfold Wd.work
  rw[hge,MJ R]
  by_cases ha:jo c.W t.mr.leaves<t.mr.left
  ·have ha0:0≤jo c.W t.mr.leaves:=by
    unfold jo
    refine Int.mul_nonneg ?_ (by omega)
    split<;>omega
   rw[if_pos ha,decide_eq_true ha]
   have hi:(((t.mr.left-1).toNat:Nat):Int)<t.mr.left:=by omega
   obtain⟨hip,a,haa⟩:=d.field hm R.w.symm hk.ql hi
   obtain⟨zs2,⟨d2,hd2,C2⟩,R2,hz2⟩:=(KE (c:=c) hf hip haa hpb.1 (by omega)).at hz R
   obtain⟨f,hf2,k1,k2,k3⟩:=pV hf hd (t.mr.left-1).toNat (nth t.pt (t.mr.left-1).toNat)
   rw[show(((t.mr.left-1).toNat:Nat):Int)=t.mr.left-1 by omega] at C2
   have R3:=R2.He hm hz2.len hf2 (v:=6) (.inl rfl) (x:=t.mr.left-1) (f:=fun m=>{m with left:=t.mr.left-1}) (by rw[if_pos rfl]) (fun h=>bn (EG _ _ h))
   exact⟨_,⟨1+2+d2+1,by omega,xE hm hlt C1 b6 b7 (by omega) (by omega) hl0 (by omega) ha C2⟩,R3⟩
  ·rw[if_neg ha,decide_eq_false ha]
   by_cases hl:0<t.mr.leaves
   ·rw[if_pos hl]
    obtain⟨b,hb⟩:=d.there (t.mr.leaves-1).toNat (by omega)
    have hnb:(nth t.lv (t.mr.leaves-1).toNat).toNat=b:=by unfold nth;rw[List.getD_eq_getElem?_getD,hb];simp
    rw[hnb]
    have hbl:=Cy hb
    obtain⟨h1,h2⟩:=R.heap.Qi hm hz.len (R.obMem htl) hbl
    have C2:Run c 146 [.int .i64 ((t.h:Int)+1),.int .i64 (t.mr.leaves-1)] zs (7+ko D.clean) ((aU c b zs).set (adr c t.h (8+(t.mr.leaves-1).toNat)) 0) (.bool true):=fun p m w hG=>by
     have:=CW (s:=⟨zs,m⟩) (o:=t.ob) (t.mr.leaves-1).toNat b hG R.heap (R.obMem htl) hbl
     rw[show(((t.mr.leaves-1).toNat:Nat):Int)=t.mr.leaves-1 by omega] at this
     exact this
    have hz2:=gY.wz hz ⟨_,Nat.le_refl _,C2⟩
    have R2:=R.Qi hm hf hb h1 h2
    have hf2:(D.fM ((t.h:Int)+1) (t.mr.leaves-1).toNat b).find ((t.h:Int)+1)=some {t with lv:=t.lv.set (t.mr.leaves-1).toNat (-1)}:=by
     show(D.upd ((t.h:Int)+1) (fun s=>{s with lv:=s.lv.set (t.mr.leaves-1).toNat (-1)})).find _=_
     rw[kW (g:=fun s=>{s with lv:=s.lv.set (t.mr.leaves-1).toNat (-1)}) (fun t=>⟨rfl,rfl⟩),hf]
     simp[find_at_r hf]
    have R3:=R2.He hm hz2.len hf2 (v:=7) (.inr rfl) (x:=t.mr.leaves-1) (f:=fun m=>{m with leaves:=t.mr.leaves-1}) (by rw[if_neg (by decide)]) bn
    have R4:=R3.AJ hm (by rw[List.length_set];exact hz2.len) (D.pending-1)
    refine⟨_,⟨1+2+(7+ko D.clean)+3,?_,zV hm hlt C1 b6 b7 hf0 (by omega) hl (by omega) ha C2 R3.r6 hpp hpl⟩,R4⟩
    unfold ko
    split<;>omega
   ·rw[if_neg hl]
    have hl0':t.mr.leaves=0:=by omega
    have hleft:¬jo c.W 0<t.mr.left:=by rw[←hl0'];exact ha
    have R2:=R.IA hm hz.len hg
    rw[show g-1=t.h by omega] at R2
    have C2:Run c 147 [.int .i64 1] zs (takeD (rest.map (· -1))) (eO c 1 t.h zs) (.tuple #[.int .i64 (t.h:Int),.bool true]):=fun p m w hG=>by
     have hC:=R.grave
     rw[hg,List.map_cons,show g-1=t.h by omega] at hC
     exact ve p c ⟨zs,m⟩ 1 t.h (rest.map (· -1)) w hG hC (by omega)
    have hz2:=gY.wz hz ⟨_,Nat.le_refl _,C2⟩
    have hle:t.ob.leaves=[]:=by
     have h1:=iI t.lv 0 (by omega) (fun j hj=>absurd hj (by omega)) (fun j _ hj=>d.gone j (by omega) hj)
     exact List.length_eq_zero_iff.1 h1
    have hm2:t∈({D with grave:=rest}:Wd).live:=htl
    obtain⟨h1,h2⟩:=R2.heap.ended hm hz2.len (R2.obMem hm2) hle
    have C3:Run c 148 [.int .i64 ((t.h:Int)+1)] (eO c 1 t.h zs) (3+ko D.clean) (aU c t.h (eO c 1 t.h zs)) (.bool true):=fun p m w hG=>Fh (s:=⟨_,m⟩) (o:=t.ob) hG R2.heap (R2.obMem hm2)
    have hng:t.h+1∉rest:=by
     have:=S.gd
     rw[hg,List.nodup_cons] at this
     rw[e];exact this.1
    have R3:=R2.ended hm (t:=t) hf bn hng h1 h2
    have hz3:=gY.wz hz2 ⟨_,Nat.le_refl _,C3⟩
    have R4:=R3.AJ hm hz3.len (D.pending-1)
    refine⟨_,⟨1+2+takeD (rest.map (· -1))+(3+ko D.clean)+2,?_,Cn hm hlt C1 b6 (by rw[b7];exact hl0') hf0 (by omega) hleft C2 C3 R3.r6 hpp hpl⟩,R4⟩
    unfold ko takeD
    split<;>split<;>omega
theorem gd_Step(S:San D):Does c D 22 [] 90 D.step (.bool (!D.grave.isEmpty)):=fun zs hz R=>by
 obtain⟨zs',⟨d,hd,C⟩,R'⟩:=MU (c:=c) S zs hz R
 exact⟨zs',⟨d,hd,Nf C⟩,R'⟩
theorem vC:Does c D 29 [] 1 D (.int .i64 D.pending):=fun zs hz R=>⟨zs,⟨1,Nat.le_refl _,EK R.r6⟩,R⟩
end
end Go.Proofs.YtjmifnljckmimaaGreat.Pk
