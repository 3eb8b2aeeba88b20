/-
  Texts laid together: GroFn, ChainMath, Acts, RingMath, PoolMath, TagI, GroNil.
-/
import Derived.Test.YtofhdfjkhfkhiaaGreatStoFnEtc
import Derived.Test.YtofhdfjkhfkhiaaGreatBaseEtc
import Derived.Test.YtofhdfjkhfkhiaaGreatPlanFnEtc
import Derived.BigQuiet
import Derived.IntWalk
import Derived.LoopTactic
namespace Go.Proofs.YtofhdfjkhfkhiaaGreat.Pk
open Lib (hid)
open Go.RowKit
set_option linter.unusedVariables false
set_option linter.unusedSimpArgs false
theorem lY{a b:Int}(h:a≠b):(a==b)=false:=by rw[beq_eq_false_iff_ne];exact h
structure Cf where
 N:Nat
 W:Nat
 R:Nat
 K:Nat
def Cf.May(c:Cf):Prop:=Pk.May (c.N:Int) (c.W:Int) (c.R:Int) (c.K:Int)
def Cf.size(c:Cf):Nat:=24+c.R+c.N*c.W
def Cf.val(c:Cf):Value:=.agg #[.int .i64 (c.N:Int),.int .i64 (c.W:Int),.int .i64 (c.R:Int),.int .i64 (c.K:Int)]
theorem Cf.May.nw{c:Cf}(h:c.May):16≤c.N*c.W∧c.N*c.W≤4194304:=by
 obtain⟨h1,h2⟩:=Iu h
 have e:((c.N*c.W:Nat):Int)=(c.N:Int)*(c.W:Int):=Int.natCast_mul _ _
 omega
theorem Cf.May.n{c:Cf}(h:c.May):1≤c.N∧c.N≤1048576:=by have:=h.n0;have:=h.n1;omega
theorem Cf.May.w{c:Cf}(h:c.May):16≤c.W∧c.W≤256:=by have:=h.w0;have:=h.w1;omega
theorem Cf.May.r{c:Cf}(h:c.May):1≤c.R∧c.R≤4096:=by have:=h.r0;have:=h.r1;omega
theorem Cf.May.k{c:Cf}(h:c.May):1≤c.K∧c.K≤65536:=by have:=h.k0;have:=h.k1;omega
theorem Cf.May.size{c:Cf}(h:c.May):41≤c.size∧c.size≤4198424:=by
 have:=h.nw;have:=h.r;unfold Cf.size;omega
structure Pl where
 a:Nat
 s:Nat
 g:Nat
structure St where
 zs:List Int
 m:Nat
def He(zs:List Int):Prop:=∀k,0≤nth zs k∧nth zs k≤4294967295
theorem aN{zs:List Int}{k:Nat}(hk:k<zs.length)(v:Int):nth (zs.set k v) k=v:=by unfold nth;simp[List.getD,hk]
theorem ai{zs:List Int}{k j:Nat}(h:k≠j)(v:Int):nth (zs.set k v) j=nth zs j:=by unfold nth;simp[List.getD,h]
theorem di{zs:List Int}{k:Nat}(hk:zs.length≤k):nth zs k=0:=by unfold nth;simp[List.getD,hk]
theorem qI(q k:Nat):nth (List.replicate q 0) k=0:=by
 unfold nth
 rw[List.getD_eq_getElem?_getD,List.getElem?_replicate]
 split<;>rfl
theorem He.set{zs:List Int}(h:He zs)(k:Nat){v:Int}(h0:0≤v)(h1:v≤4294967295):He (zs.set k v):=by
 intro j
 by_cases e:k=j
 ·subst e
  by_cases hk:k<zs.length
  ·rw[aN hk];exact⟨h0,h1⟩
  ·rw[di (by simp;omega)];omega
 ·rw[ai e];exact h j
theorem He.iK(q:Nat):He (List.replicate q 0):=fun k=>by rw[qI];omega
structure kX (tg ts e:TypeId) (w:World) (p:Pl) (c:Cf) (s:St):Prop where
 head:Blk w p.a #[.pointer (some ⟨p.s,0,none⟩),.int .i64 (c.N:Int),.int .i64 (c.W:Int),.int .i64 (c.R:Int),.int .i64 (c.K:Int)] tg
 st:oo w ts e p.s p.g s.zs (u64m s.m)
 len:s.zs.length=c.size
 as_:p.a≠p.s
 ag:p.a≠p.g
 may:c.May
 wf:He s.zs
def inG(p:Pl):Nat→Prop:=Ij p.s p.g
def ofG(p:Pl):Nat→Prop:=fun k=>k=p.a∨Ij p.s p.g k
theorem kX.touch{tg ts e:TypeId}{X:Nat→Prop}{w w':World}{p:Pl}{c:Cf}{s:St}(h:kX tg ts e w p c s)(k:Touch X w w')(hX:∀b,ofG p b→¬X b):kX tg ts e w' p c s:=
 ⟨h.head.touch k (hX _ (.inl rfl)),h.st.touch k (hX _ (.inr (.inl rfl))) (hX _ (.inr (.inr rfl))),h.len,h.as_,h.ag,h.may,h.wf⟩
theorem kX.later{tg ts e:TypeId}{w w':World}{p:Pl}{c:Cf}{s:St}(h:kX tg ts e w p c s)(k:Below w.heap.size w w'):kX tg ts e w' p c s:=
 ⟨h.head.later k,h.st.later k,h.len,h.as_,h.ag,h.may,h.wf⟩
theorem kX.drew{tg ts e:TypeId}{w:World}{p:Pl}{c:Cf}{s:St}(h:kX tg ts e w p c s):kX tg ts e w.drew p c s:=⟨h.head.drew,h.st.drew,h.len,h.as_,h.ag,h.may,h.wf⟩
theorem kX.alloc{tg ts e:TypeId}{w:World}{p:Pl}{c:Cf}{s:St}(h:kX tg ts e w p c s)(o:Obj):kX tg ts e (w.alloc o) p c s:=⟨h.head.alloc o,h.st.alloc o,h.len,h.as_,h.ag,h.may,h.wf⟩
theorem kX.bE{tg ts e:TypeId}{w w':World}{p:Pl}{c:Cf}{s:St}(h:kX tg ts e w p c s)(k:bR w w'):kX tg ts e w' p c s:=h.later k.new
theorem kX.ptr{tg ts e:TypeId}{w:World}{p:Pl}{c:Cf}{s:St}(h:kX tg ts e w p c s):w.cell? ⟨p.a,0,none⟩=some (.pointer (some ⟨p.s,0,none⟩)):=h.head.cell 0 rfl
theorem kX.cN{tg ts e:TypeId}{w:World}{p:Pl}{c:Cf}{s:St}(h:kX tg ts e w p c s):w.cell? ⟨p.a,1,none⟩=some (.int .i64 (c.N:Int)):=h.head.cell 1 rfl
theorem kX.cW{tg ts e:TypeId}{w:World}{p:Pl}{c:Cf}{s:St}(h:kX tg ts e w p c s):w.cell? ⟨p.a,2,none⟩=some (.int .i64 (c.W:Int)):=h.head.cell 2 rfl
theorem kX.cR{tg ts e:TypeId}{w:World}{p:Pl}{c:Cf}{s:St}(h:kX tg ts e w p c s):w.cell? ⟨p.a,3,none⟩=some (.int .i64 (c.R:Int)):=h.head.cell 3 rfl
theorem kX.cK{tg ts e:TypeId}{w:World}{p:Pl}{c:Cf}{s:St}(h:kX tg ts e w p c s):w.cell? ⟨p.a,4,none⟩=some (.int .i64 (c.K:Int)):=h.head.cell 4 rfl
theorem kX.step{tg ts e:TypeId}{w w':World}{p:Pl}{c:Cf}{s s':St}(h:kX tg ts e w p c s)(hS:oo w' ts e p.s p.g s'.zs (u64m s'.m))(k:Touch (inG p) w w')(hl:s'.zs.length=s.zs.length)(hw:He s'.zs):kX tg ts e w' p c s':=
 ⟨h.head.touch k (by have:=h.as_;have:=h.ag;unfold inG Ij;omega),hS,hl.trans h.len,h.as_,h.ag,h.may,hw⟩
def St.got(s:St):St:=⟨s.zs,s.m+1⟩
def St.set(s:St)(k:Nat)(v:Int):St:=⟨s.zs.set k v,s.m+1⟩
theorem St.uT(s:St)(k:Nat)(v:Int):(s.set k v).zs.length=s.zs.length:=by simp[St.set]
def bel(n:Int)(b:Nat):Bool:=decide (0≤n∧n<(b:Int))
theorem kG{n:Int}{b:Nat}(h:bel n b=true):∃k:Nat,n=(k:Int)∧k<b:=by
 unfold bel at h
 have:=of_decide_eq_true h
 exact⟨n.toNat,by omega,by omega⟩
theorem iP{k b:Nat}(h:k<b):bel (k:Int) b=true:=by unfold bel;exact decide_eq_true (by omega)
theorem QE{n:Int}{b:Nat}(h:bel n b=false):n<0∨(b:Int)≤n:=by
 unfold bel at h
 have:=of_decide_eq_false h
 omega
def nT(r:Int):Option Nat:=if bel r 24 then some r.toNat else none
def aB(c:Cf)(b w:Int):Option Nat:=if bel b c.N&&bel w c.W then some (24+c.R+b.toNat*c.W+w.toNat) else none
theorem lS{c:Cf}{b w:Nat}(hb:b<c.N)(hw:w<c.W):24+c.R+b*c.W+w<c.size:=by
 have h:(b+1)*c.W≤c.N*c.W:=Nat.mul_le_mul_right _ hb
 rw[Nat.add_mul,Nat.one_mul] at h
 unfold Cf.size
 omega
theorem Au{c:Cf}{r:Int}{k:Nat}(h:nT r=some k):k<c.size:=by
 unfold nT at h
 split at h
 ·rename_i hb
  obtain⟨j,rfl,hj⟩:=kG hb
  cases h
  unfold Cf.size
  omega
 ·cases h
theorem xm{c:Cf}{b w:Int}{k:Nat}(h:aB c b w=some k):k<c.size:=by
 unfold aB at h
 split at h
 ·rename_i hb
  rw[Bool.and_eq_true] at hb
  obtain⟨j,rfl,hj⟩:=kG hb.1
  obtain⟨i,rfl,hi⟩:=kG hb.2
  cases h
  exact lS hj hi
 ·cases h
def St.at?(s:St)(k:Option Nat):Int:=match k with|some k=>nth s.zs k|none=>0
def St.ask(s:St)(k:Option Nat):St:=match k with|some _=>s.got|none=>s
def St.put(s:St)(k:Option Nat)(v:Int):St:=match k with|some k=>s.set k v|none=>s
def qo(v:Int):Bool:=decide (0≤v∧v≤4294967295)
def St.Dw(s:St)(k:Option Nat)(v:Int):St:=if qo v then s.put k v else s
def MU(k:Option Nat)(v:Int):Bool:=k.isSome&&qo v
theorem St.at?_wf{s:St}(h:He s.zs)(k:Option Nat):0≤s.at? k∧s.at? k≤4294967295:=by
 cases k with
 |none=>show(0:Int)≤0∧(0:Int)≤4294967295;decide
 |some k=>exact h k
theorem Ji{v:Int}(h:qo v=true):0≤v∧v≤4294967295:=of_decide_eq_true h
theorem Cm{v:Int}(h0:0≤v)(h1:v≤4294967295):qo v=true:=decide_eq_true ⟨h0,h1⟩
def SC(tg ts e:TypeId)(w:World)(p:Pl)(c:Cf)(s:St)(v:Value)(en:Ending)(w':World):Prop:=
 en=.returned v∧kX tg ts e w' p c s∧Touch (inG p) w w'
abbrev G:=kX 92 161 126
abbrev GP:=SC 92 161 126
theorem yC(n b:Int)(w:World):Calls Tryz.prog 157 #[.int .i64 n,.int .i64 b] w fun e w'=>e=.returned (.bool (decide (0≤n∧n<b)))∧w=w':=by
 by_cases h:0≤n
 ·go_enter Tryz.func157,Tryz.ntmps157
  go_wp2
  go_ret
  exact⟨ax (by simp[h]),rfl⟩
 ·have h':n<0:=by omega
  go_enter Tryz.func157,Tryz.ntmps157
  go_wp2
  go_ret
  exact⟨ax (by simp;omega),rfl⟩
theorem jS(n:Int)(b:Nat)(w:World):Calls Tryz.prog 157 #[.int .i64 n,.int .i64 (b:Int)] w fun e w'=>e=.returned (.bool (bel n b))∧w=w':=yC n b w
theorem uY(n:Int)(w:World):Calls Tryz.prog 157 #[.int .i64 n,.int .i64 24] w fun e w'=>e=.returned (.bool (bel n 24))∧w=w':=yC n 24 w
theorem vz(n:Int)(w:World):Calls Tryz.prog 96 #[.int .i64 n] w fun e w'=>e=.returned (.bool (qo n))∧w=w':=by
 by_cases h:0≤n
 ·go_enter Tryz.func96,Tryz.ntmps96
  go_wp2
  go_ret
  exact⟨ax (by unfold qo;simp[h]),rfl⟩
 ·have h':n<0:=by omega
  go_enter Tryz.func96,Tryz.ntmps96
  go_wp2
  go_ret
  exact⟨ax (by unfold qo;simp;omega),rfl⟩
theorem Oy{P:Program}{f:FuncId}{args:Array Value}{w:World}{a b:Bool}(h:Calls P f args w fun e w'=>e=.returned (.bool a)∧w=w')(hab:a=b):
  Calls P f args w fun e w'=>e=.returned (.bool b)∧w=w':=hab▸h
theorem Fa{P:Program}{f:FuncId}{args:Array Value}{w:World}{a b:Value}{Q:World→Prop}(h:Calls P f args w fun e w'=>e=.returned a∧Q w')(hab:a=b):
  Calls P f args w fun e w'=>e=.returned b∧Q w':=hab▸h
def Qp(k:Option Nat):Value:=match k with|some k=>.tuple #[.int .i64 (k:Int),.bool true]|none=>.tuple #[.int .i64 0,.bool false]
theorem jd{o:Option Nat}{k:Nat}(h:o=some k):Qp o=.tuple #[.int .i64 (k:Int),.bool true]:=by rw[h];rfl
theorem jR{o:Option Nat}(h:o=none):Qp o=.tuple #[.int .i64 0,.bool false]:=by rw[h];rfl
theorem iW(p:Pl)(c:Cf)(s:St)(r:Int)(w:World)(hG:G w p c s):
  Calls Tryz.prog 95 #[.pointer (some ⟨p.a,0,none⟩),.int .i64 r] w fun e w'=>e=.returned (Qp (nT r))∧w=w':=by
 clear hG
 by_cases h:bel r 24=true
 ·obtain⟨k,rfl,hk⟩:=kG h
  have e1:nT (k:Int)=some k:=by unfold nT;rw[if_pos h];simp
  rw[e1]
  clear e1
  go_enter Tryz.func95,Tryz.ntmps95
  go_wp2_with fail
  refine(Oy (uY _ _) h).mono ?_
  rintro e w1 ⟨rfl,rfl⟩
  go_wp2_with fail
  go_ret2
  exact⟨rfl,rfl⟩
 ·have h':bel r 24=false:=by simpa using h
  have e1:nT r=none:=by unfold nT;rw[if_neg h]
  rw[e1]
  clear e1
  go_enter Tryz.func95,Tryz.ntmps95
  go_wp2_with fail
  refine(Oy (uY _ _) h').mono ?_
  rintro e w1 ⟨rfl,rfl⟩
  go_wp2_with fail
  go_ret2
  exact⟨rfl,rfl⟩
theorem GX(p:Pl)(c:Cf)(s:St)(b v:Nat)(w:World)(hG:G w p c s)(hb:b<c.N)(hv:v<c.W):
  Calls Tryz.prog 114 #[.pointer (some ⟨p.a,0,none⟩),.int .i64 (b:Int),.int .i64 (v:Int)] w fun e w'=>e=.returned (Qp (some (24+c.R+b*c.W+v)))∧bR w w':=by
 have cN:=hG.cN
 have cW:=hG.cW
 have cR:=hG.cR
 have hR:=hG.may.r
 have hW:=hG.may.w
 have hN:=hG.may.n
 have hsz:=hG.may.size
 have hlt:=lS hb hv
 have e0:((b*c.W:Nat):Int)=(b:Int)*(c.W:Int):=Int.natCast_mul _ _
 have hbw:0≤(b:Int)*(c.W:Int)∧(b:Int)*(c.W:Int)≤4198424:=by omega
 clear hG
 have w1:IntKind.i64.wrap (24+(c.R:Int))=24+(c.R:Int):=IntWalk.i64_in _ (by omega)
 have w2:IntKind.i64.wrap ((b:Int)*(c.W:Int))=(b:Int)*(c.W:Int):=by
  generalize (b:Int)*(c.W:Int)=x at hbw ⊢
  exact IntWalk.i64_in _ (by omega)
 have w3:IntKind.i64.wrap (24+(c.R:Int)+(b:Int)*(c.W:Int))=24+(c.R:Int)+(b:Int)*(c.W:Int):=by
  generalize (b:Int)*(c.W:Int)=x at hbw ⊢
  exact IntWalk.i64_in _ (by omega)
 have w4:IntKind.i64.wrap (24+(c.R:Int)+(b:Int)*(c.W:Int)+(v:Int))=24+(c.R:Int)+(b:Int)*(c.W:Int)+(v:Int):=by
  generalize (b:Int)*(c.W:Int)=x at hbw ⊢
  exact IntWalk.i64_in _ (by omega)
 have hB:=hid (iP hb)
 have hV:=hid (iP hv)
 have E0:=hid e0
 clear hb hv e0 hlt hsz
 go_enter Tryz.func114,Tryz.ntmps114
 go_wp2_with fail
 refine(Oy (jS _ _ _) hB.out).mono ?_
 rintro e w1 ⟨rfl,rfl⟩
 go_wp2_with fail
 refine(Oy (jS _ _ _) hV.out).mono ?_
 rintro e w1 ⟨rfl,rfl⟩
 go_wp2_with fail
 go_quiet (fail)
 go_wp2_with fail
 go_ret2
 exact⟨by have:=E0.out;simp[Qp],bR.refl _ |>.step _⟩
theorem GU(p:Pl)(c:Cf)(s:St)(b v:Int)(w:World)(hG:G w p c s)(hb:bel b c.N=false):
  Calls Tryz.prog 114 #[.pointer (some ⟨p.a,0,none⟩),.int .i64 b,.int .i64 v] w fun e w'=>e=.returned (Qp none)∧bR w w':=by
 have cN:=hG.cN
 have cW:=hG.cW
 have hB:=hid hb
 clear hG hb
 go_enter Tryz.func114,Tryz.ntmps114
 go_wp2_with fail
 refine(Oy (jS _ _ _) hB.out).mono ?_
 rintro e w1 ⟨rfl,rfl⟩
 go_wp2_with fail
 go_ret2
 exact⟨rfl,bR.refl _⟩
theorem GV(p:Pl)(c:Cf)(s:St)(b v:Int)(w:World)(hG:G w p c s)(hA0:bel b c.N=true)(hb:bel v c.W=false):
  Calls Tryz.prog 114 #[.pointer (some ⟨p.a,0,none⟩),.int .i64 b,.int .i64 v] w fun e w'=>e=.returned (Qp none)∧bR w w':=by
 have cN:=hG.cN
 have cW:=hG.cW
 have hB:=hid hb
 have hA:=hid hA0
 clear hA0
 clear hG hb
 go_enter Tryz.func114,Tryz.ntmps114
 go_wp2_with fail
 refine(Oy (jS _ _ _) hA.out).mono ?_
 rintro e w1 ⟨rfl,rfl⟩
 go_wp2_with fail
 refine(Oy (jS _ _ _) hB.out).mono ?_
 rintro e w1 ⟨rfl,rfl⟩
 go_wp2_with fail
 go_ret2
 exact⟨rfl,bR.refl _⟩
theorem fO(p:Pl)(c:Cf)(s:St)(b v:Int)(w:World)(hG:G w p c s):
  Calls Tryz.prog 114 #[.pointer (some ⟨p.a,0,none⟩),.int .i64 b,.int .i64 v] w fun e w'=>e=.returned (Qp (aB c b v))∧bR w w':=by
 by_cases h1:bel b c.N=true
 ·by_cases h2:bel v c.W=true
  ·obtain⟨i,rfl,hi⟩:=kG h1
   obtain⟨j,rfl,hj⟩:=kG h2
   have e:aB c (i:Int) (j:Int)=some (24+c.R+i*c.W+j):=by unfold aB;rw[h1,h2];simp
   rw[e]
   exact GX p c s i j w hG hi hj
  ·have e:aB c b v=none:=by unfold aB;simp[h2]
   rw[e]
   exact GV p c s b v w hG h1 (by simpa using h2)
 ·have e:aB c b v=none:=by unfold aB;simp[h1]
  rw[e]
  exact GU p c s b v w hG (by simpa using h1)
theorem PM(p:Pl)(c:Cf)(s:St)(r:Int)(w:World)(hG:G w p c s):
  Calls Tryz.prog 45 #[.pointer (some ⟨p.a,0,none⟩),.int .i64 r] w (GP w p c (s.ask (nT r)) (.int .i64 (s.at? (nT r)))):=by
 have HG:=hid hG
 clear hG
 cases hk:nT r with
 |none=>
  have HK:=hid hk
  clear hk
  go_enter Tryz.func45,Tryz.ntmps45
  go_wp2_with fail
  refine(Fa (iW p c s r _ HG.out) (jR HK.out)).mono ?_
  rintro e w1 ⟨rfl,rfl⟩
  have HD:=hid (bR.refl w)
  have HG1:=HG
  have cp:=HG1.out.ptr
  go_wp2_with fail
  go_ret
  exact⟨rfl,HG1.out,Touch.of_below (HD.out.new)⟩
 |some k=>
  have HK:=hid hk
  have HL:=hid (show k<s.zs.length by rw[HG.out.len];exact Au hk)
  clear hk
  have hwr:IntKind.i64.wrap (nth s.zs k)=nth s.zs k:=by have:=HG.out.wf k;exact IntWalk.i64_in _ (by omega)
  go_enter Tryz.func45,Tryz.ntmps45
  go_wp2_with fail
  refine(Fa (iW p c s r _ HG.out) (jd HK.out)).mono ?_
  rintro e w1 ⟨rfl,rfl⟩
  have HD:=hid (bR.refl w)
  have HG1:=HG
  have cp:=HG1.out.ptr
  go_wp2_with fail
  refine(CX p.s p.g s.zs s.m k _ HG1.out.st HL.out).mono ?_
  rintro e w2 ⟨rfl,hS,hT⟩
  have HS:=hid hS
  have HT:=hid hT
  clear hS hT
  go_wp2_with fail
  go_ret
  exact⟨rfl,HG1.out.step (s':=s.got) HS.out HT.out rfl HG1.out.wf,(Touch.of_below (HD.out.new)).trans HT.out⟩
theorem Gn(p:Pl)(c:Cf)(s:St)(r:Int)(w:World)(hG:G w p c s):
  Calls Tryz.prog 138 #[.pointer (some ⟨p.a,0,none⟩),.int .i64 r] w fun e w'=>e=.returned (.int .i64 (s.at? (nT r)))∧w=w':=by
 have HG:=hid hG
 clear hG
 cases hk:nT r with
 |none=>
  have HK:=hid hk
  clear hk
  go_enter Tryz.func138,Tryz.ntmps138
  go_wp2_with fail
  refine(Fa (iW p c s r _ HG.out) (jR HK.out)).mono ?_
  rintro e w1 ⟨rfl,rfl⟩
  have HD:=hid (bR.refl w)
  have HG1:=HG
  have cp:=HG1.out.ptr
  go_wp2_with fail
  go_ret
  exact⟨rfl,rfl⟩
 |some k=>
  have HK:=hid hk
  have HL:=hid (show k<s.zs.length by rw[HG.out.len];exact Au hk)
  clear hk
  have hwr:IntKind.i64.wrap (nth s.zs k)=nth s.zs k:=by have:=HG.out.wf k;exact IntWalk.i64_in _ (by omega)
  go_enter Tryz.func138,Tryz.ntmps138
  go_wp2_with fail
  refine(Fa (iW p c s r _ HG.out) (jd HK.out)).mono ?_
  rintro e w1 ⟨rfl,rfl⟩
  have HD:=hid (bR.refl w)
  have HG1:=HG
  have cp:=HG1.out.ptr
  go_wp2_with fail
  refine(Dl p.s p.g s.zs _ k _ HG1.out.st HL.out).mono ?_
  rintro e w2 ⟨rfl,rfl⟩
  go_wp2_with fail
  go_ret
  exact⟨rfl,rfl⟩
theorem Gp(p:Pl)(c:Cf)(s:St)(r:Int)(x:Int)(w:World)(hG:G w p c s):
  Calls Tryz.prog 37 #[.pointer (some ⟨p.a,0,none⟩),.int .i64 r,.int .i64 x] w (GP w p c (s.Dw (nT r) x) (.bool (MU (nT r) x))):=by
 have HG:=hid hG
 clear hG
 cases hk:nT r with
 |none=>
  have HK:=hid hk
  have E:Hid (s.Dw none x=s):=hid (by unfold St.Dw;split<;>rfl)
  clear hk
  go_enter Tryz.func37,Tryz.ntmps37
  go_wp2_with fail
  refine(Fa (iW p c s r _ HG.out) (jR HK.out)).mono ?_
  rintro e w1 ⟨rfl,rfl⟩
  have HD:=hid (bR.refl w)
  have HG1:=HG
  have cp:=HG1.out.ptr
  go_wp2_with fail
  go_ret
  exact⟨rfl,by rw[E.out];exact HG1.out,Touch.of_below (HD.out.new)⟩
 |some k=>
  have HK:=hid hk
  have HL:=hid (show k<s.zs.length by rw[HG.out.len];exact Au hk)
  clear hk
  by_cases hf:qo x=true
  ·have hr:=Ji hf
   have hwr:IntKind.u32.wrap x=x:=IntWalk.u32_in _ (by omega)
   have HF:=hid hf
   clear hf
   go_enter Tryz.func37,Tryz.ntmps37
   go_wp2_with fail
   refine(Fa (iW p c s r _ HG.out) (jd HK.out)).mono ?_
   rintro e w1 ⟨rfl,rfl⟩
   have HD:=hid (bR.refl w)
   have HG1:=HG
   have cp:=HG1.out.ptr
   go_wp2_with fail
   refine(Oy (vz _ _) HF.out).mono ?_
   rintro e w1 ⟨rfl,rfl⟩
   go_wp2_with fail
   refine(vR p.s p.g s.zs s.m x k _ HG1.out.st HL.out).mono ?_
   rintro e w2 ⟨rfl,hS,hT⟩
   have HS:=hid hS
   have HT:=hid hT
   clear hS hT
   go_wp2_with fail
   go_ret
   refine⟨by unfold MU;rw[HF.out];rfl,?_,(Touch.of_below (HD.out.new)).trans HT.out⟩
   rw[show s.Dw (some k) x=s.set k x by unfold St.Dw;rw[if_pos HF.out];rfl]
   exact HG1.out.step (s':=s.set k x) HS.out HT.out (s.uT k x) (HG1.out.wf.set k hr.1 hr.2)
  ·have HF:=hid (show qo x=false by simpa using hf)
   clear hf
   go_enter Tryz.func37,Tryz.ntmps37
   go_wp2_with fail
   refine(Fa (iW p c s r _ HG.out) (jd HK.out)).mono ?_
   rintro e w1 ⟨rfl,rfl⟩
   have HD:=hid (bR.refl w)
   have HG1:=HG
   have cp:=HG1.out.ptr
   go_wp2_with fail
   refine(Oy (vz _ _) HF.out).mono ?_
   rintro e w1 ⟨rfl,rfl⟩
   go_wp2_with fail
   go_ret
   exact⟨by unfold MU;rw[HF.out];rfl,by unfold St.Dw;rw[if_neg (by rw[HF.out];simp)];exact HG1.out,Touch.of_below (HD.out.new)⟩
theorem xn(p:Pl)(c:Cf)(s:St)(b v:Int)(w:World)(hG:G w p c s):
  Calls Tryz.prog 51 #[.pointer (some ⟨p.a,0,none⟩),.int .i64 b,.int .i64 v] w (GP w p c (s.ask (aB c b v)) (.int .u32 (s.at? (aB c b v)))):=by
 have HG:=hid hG
 clear hG
 cases hk:aB c b v with
 |none=>
  have HK:=hid hk
  clear hk
  go_enter Tryz.func51,Tryz.ntmps51
  go_wp2_with fail
  refine(Fa (fO p c s b v _ HG.out) (jR HK.out)).mono ?_
  rintro e w1 ⟨rfl,hd⟩
  have HD:=hid hd
  have HG1:=hid (HG.out.bE hd)
  have cp:=HG1.out.ptr
  clear hd
  go_wp2_with fail
  go_ret
  exact⟨rfl,HG1.out,Touch.of_below (HD.out.new)⟩
 |some k=>
  have HK:=hid hk
  have HL:=hid (show k<s.zs.length by rw[HG.out.len];exact xm hk)
  clear hk
  go_enter Tryz.func51,Tryz.ntmps51
  go_wp2_with fail
  refine(Fa (fO p c s b v _ HG.out) (jd HK.out)).mono ?_
  rintro e w1 ⟨rfl,hd⟩
  have HD:=hid hd
  have HG1:=hid (HG.out.bE hd)
  have cp:=HG1.out.ptr
  clear hd
  go_wp2_with fail
  refine(CX p.s p.g s.zs s.m k _ HG1.out.st HL.out).mono ?_
  rintro e w2 ⟨rfl,hS,hT⟩
  have HS:=hid hS
  have HT:=hid hT
  clear hS hT
  go_wp2_with fail
  go_ret
  exact⟨rfl,HG1.out.step (s':=s.got) HS.out HT.out rfl HG1.out.wf,(Touch.of_below (HD.out.new)).trans HT.out⟩
theorem tV(p:Pl)(c:Cf)(s:St)(b v:Int)(w:World)(hG:G w p c s):
  Calls Tryz.prog 109 #[.pointer (some ⟨p.a,0,none⟩),.int .i64 b,.int .i64 v] w fun e w'=>e=.returned (.int .u32 (s.at? (aB c b v)))∧bR w w':=by
 have HG:=hid hG
 clear hG
 cases hk:aB c b v with
 |none=>
  have HK:=hid hk
  clear hk
  go_enter Tryz.func109,Tryz.ntmps109
  go_wp2_with fail
  refine(Fa (fO p c s b v _ HG.out) (jR HK.out)).mono ?_
  rintro e w1 ⟨rfl,hd⟩
  have HD:=hid hd
  have HG1:=hid (HG.out.bE hd)
  have cp:=HG1.out.ptr
  clear hd
  go_wp2_with fail
  go_ret
  exact⟨rfl,HD.out⟩
 |some k=>
  have HK:=hid hk
  have HL:=hid (show k<s.zs.length by rw[HG.out.len];exact xm hk)
  clear hk
  go_enter Tryz.func109,Tryz.ntmps109
  go_wp2_with fail
  refine(Fa (fO p c s b v _ HG.out) (jd HK.out)).mono ?_
  rintro e w1 ⟨rfl,hd⟩
  have HD:=hid hd
  have HG1:=hid (HG.out.bE hd)
  have cp:=HG1.out.ptr
  clear hd
  go_wp2_with fail
  refine(Dl p.s p.g s.zs _ k _ HG1.out.st HL.out).mono ?_
  rintro e w2 ⟨rfl,rfl⟩
  go_wp2_with fail
  go_ret
  exact⟨rfl,HD.out⟩
theorem DW(p:Pl)(c:Cf)(s:St)(b v:Int)(x:Int)(w:World)(hG:G w p c s)(h0:0≤x)(h1:x≤4294967295):
  Calls Tryz.prog 120 #[.pointer (some ⟨p.a,0,none⟩),.int .i64 b,.int .i64 v,.int .u32 x] w (GP w p c (s.put (aB c b v) x) (.bool (aB c b v).isSome)):=by
 have HG:=hid hG
 clear hG
 cases hk:aB c b v with
 |none=>
  have HK:=hid hk
  clear hk
  go_enter Tryz.func120,Tryz.ntmps120
  go_wp2_with fail
  refine(Fa (fO p c s b v _ HG.out) (jR HK.out)).mono ?_
  rintro e w1 ⟨rfl,hd⟩
  have HD:=hid hd
  have HG1:=hid (HG.out.bE hd)
  have cp:=HG1.out.ptr
  clear hd
  go_wp2_with fail
  go_ret
  exact⟨rfl,HG1.out,Touch.of_below (HD.out.new)⟩
 |some k=>
  have HK:=hid hk
  have HL:=hid (show k<s.zs.length by rw[HG.out.len];exact xm hk)
  clear hk
  go_enter Tryz.func120,Tryz.ntmps120
  go_wp2_with fail
  refine(Fa (fO p c s b v _ HG.out) (jd HK.out)).mono ?_
  rintro e w1 ⟨rfl,hd⟩
  have HD:=hid hd
  have HG1:=hid (HG.out.bE hd)
  have cp:=HG1.out.ptr
  clear hd
  go_wp2_with fail
  refine(vR p.s p.g s.zs s.m x k _ HG1.out.st HL.out).mono ?_
  rintro e w2 ⟨rfl,hS,hT⟩
  have HS:=hid hS
  have HT:=hid hT
  clear hS hT
  go_wp2_with fail
  go_ret
  exact⟨rfl,HG1.out.step (s':=s.set k x) HS.out HT.out (s.uT k x) (HG1.out.wf.set k h0 h1),(Touch.of_below (HD.out.new)).trans HT.out⟩
theorem Fw(p:Pl)(c:Cf)(s:St)(w:World)(hG:G w p c s):
  Calls Tryz.prog 27 #[.pointer (some ⟨p.a,0,none⟩)] w fun e w'=>e=.returned (.int .u64 (u64m s.m))∧w=w':=by
 have cp:=hG.ptr
 have HG:=hid hG
 clear hG
 go_enter Tryz.func27,Tryz.ntmps27
 go_wp2_with fail
 refine(JF p.s p.g s.zs _ _ HG.out.st).mono ?_
 rintro e w1 ⟨rfl,rfl⟩
 go_wp2_with fail
 go_ret
 exact⟨rfl,rfl⟩
theorem yQ(p:Pl)(c:Cf)(s:St)(w:World)(hG:G w p c s):
  Calls Tryz.prog 23 #[.pointer (some ⟨p.a,0,none⟩)] w fun e w'=>e=.returned c.val∧Below w.heap.size w w':=by
 have cN:=hG.cN
 have cW:=hG.cW
 have cR:=hG.cR
 have cK:=hG.cK
 have ha:=hG.head.lt
 clear hG
 go_enter Tryz.func23,Tryz.ntmps23
 go_wp2_with fail
 exact bodyPost_ret (v:=c.val) (by simp[results,Tryz.results23,go_sem,Cf.val]) rfl ⟨rfl,by
  repeat refine Below.setCell ?_ (by simp) _
  exact below_new w _⟩
def St.lQ(s:St)(f:Nat):Nat→St
 |0=>s
 |n+1=>(s.lQ f n).set (f+n) 0
theorem St.rE(s:St)(f n:Nat):(s.lQ f n).zs.length=s.zs.length:=by
 induction n with
 |zero=>rfl
 |succ n ih=>rw[←ih];exact St.uT _ _ _
theorem St.Sm(s:St)(f n:Nat):(s.lQ f n).m=s.m+n:=by
 induction n with
 |zero=>rfl
 |succ n ih=>show(s.lQ f n).m+1=_;omega
theorem St.Oa(s:St)(f n k:Nat)(h:f+n≤s.zs.length):nth (s.lQ f n).zs k=if f≤k∧k<f+n then 0 else nth s.zs k:=by
 induction n with
 |zero=>rw[if_neg (by omega)];rfl
 |succ n ih=>
  show nth ((s.lQ f n).zs.set (f+n) 0) k=_
  by_cases e:f+n=k
  ·subst e
   rw[aN (by rw[St.rE];omega),if_pos (by omega)]
  ·rw[ai e,ih (by omega)]
   by_cases h1:f≤k∧k<f+n
   ·rw[if_pos h1,if_pos (by omega)]
   ·rw[if_neg h1,if_neg (by omega)]
theorem He.lQ{s:St}(h:He s.zs)(f n:Nat):He (s.lQ f n).zs:=by
 induction n with
 |zero=>exact h
 |succ n ih=>exact He.set ih _ (Int.le_refl _) (by decide)
def St.xk(s:St)(c:Cf)(b:Int):St:=match aB c b 0 with|some f=>s.lQ f c.W|none=>s
def NY(c:Cf)(b:Int):Int:=if bel b c.N then(c.W:Int) else 0
theorem NZ(p:Pl)(c:Cf)(s:St)(b:Int)(w:World)(hG:G w p c s):
  Calls Tryz.prog 214 #[.pointer (some ⟨p.a,0,none⟩),.int .i64 b] w (GP w p c (s.xk c b) (.int .i64 (NY c b))):=by
 have HG:=hid hG
 clear hG
 have e0:((0:Nat):Int)=0:=rfl
 cases hk:aB c b 0 with
 |none=>
  have HK:=hid hk
  have HB:Hid (bel b c.N=false):=hid (by
   have:=HG.out.may.w
   cases hb:bel b c.N with
   |false=>rfl
   |true=>
    have h2:bel (0:Int) c.W=true:=iP (k:=0) (by omega)
    rw[aB,hb,h2] at hk
    cases hk)
  clear hk
  go_enter Tryz.func214,Tryz.ntmps214
  go_wp2_with fail
  refine(Fa (fO p c s b 0 _ HG.out) (jR HK.out)).mono ?_
  rintro e w1 ⟨rfl,hd⟩
  have HD:=hid hd
  clear hd
  go_wp2_with fail
  go_ret
  refine⟨by unfold NY;rw[HB.out];rfl,?_,Touch.of_below HD.out.new⟩
  rw[show s.xk c b=s by unfold St.xk;rw[HK.out]]
  exact HG.out.bE HD.out
 |some f=>
  have HK:=hid hk
  have hB:bel b c.N=true:=by
   cases hb:bel b c.N with
   |true=>rfl
   |false=>rw[aB,hb] at hk;cases hk
  have HF:Hid (f+c.W≤c.size):=hid (by
   obtain⟨i,rfl,hi⟩:=kG hB
   have h2:bel (0:Int) c.W=true:=iP (k:=0) (by have:=HG.out.may.w;omega)
   rw[aB,hB,h2] at hk
   cases hk
   have:=lS (w:=c.W-1) hi (by have:=HG.out.may.w;omega)
   have:=HG.out.may.w
   simp
   omega)
  have HB:=hid hB
  clear hk hB
  go_enter Tryz.func214,Tryz.ntmps214
  go_wp2_with fail
  refine(Fa (fO p c s b 0 _ HG.out) (jd HK.out)).mono ?_
  rintro e w1 ⟨rfl,hd⟩
  have HD:=hid hd
  have HG1:=hid (HG.out.bE hd)
  have cW:=HG1.out.cW
  clear hd
  go_wp2_with fail
  go_loopw [21] (fun i wr=>∃k:Nat,k≤c.W∧i=.int .i64 k∧G wr p c (s.lQ f k)∧Touch (inG p) w wr) (fun i _=>c.W-(intOf i).toNat)
  case atStart=>exact⟨0,Nat.zero_le _,rfl,HG1.out,Touch.of_below HD.out.new⟩
  case round=>
   obtain⟨k,hkW,rfl,hGk,hTk⟩:=hrel
   have hW:=HG.out.may.w
   have HGk:=hid hGk
   have HTk:=hid hTk
   have cp:=hGk.ptr
   have cW:=hGk.cW
   have hf:f+k≤4198424:=by have:=HF.out;have:=HG.out.may.size;omega
   have hadd:IntKind.i64.wrap ((f:Int)+(k:Int))=((f+k:Nat):Int):=by rw[IntWalk.i64_in _ (by omega)];exact(Int.natCast_add f k).symm
   clear hGk hTk
   by_cases hlt:k<c.W
   ·have HL:Hid (f+k<(s.lQ f k).zs.length):=hid (by rw[St.rE,HG.out.len];have:=HF.out;omega)
    go_wp2_with fail
    refine(vR p.s p.g (s.lQ f k).zs (s.lQ f k).m 0 (f+k) _ HGk.out.st HL.out).mono ?_
    rintro e w2 ⟨rfl,hS,hT⟩
    have HS:=hid hS
    have HT:=hid hT
    clear hS hT
    go_wp2_with fail
    go_roundw
    case rel=>exact⟨k+1,by omega,by go_num,HGk.out.step (s':=s.lQ f (k+1)) HS.out HT.out (St.uT _ _ _) (HG.out.wf.lQ f (k+1)),HTk.out.trans HT.out⟩
    case measure=>simp[intOf];omega
   ·obtain rfl:k=c.W:=by omega
    go_wp2_with fail
    go_ret
    refine⟨by unfold NY;rw[HB.out];rfl,?_,HTk.out⟩
    rw[show s.xk c b=s.lQ f c.W by unfold St.xk;rw[HK.out]]
    exact HGk.out
def Ui(tg ts e:TypeId)(w:World)(c:Cf)(en:Ending)(w':World):Prop:=
 ∃p:Pl,en=.returned (.tuple #[.pointer (some ⟨p.a,0,none⟩),.int .i64 0])∧kX tg ts e w' p c ⟨List.replicate c.size 0,0⟩∧(∀k,ofG p k→w.heap.size≤k)∧Below w.heap.size w w'
theorem Tu{c:Cf}:Ir c.N c.W c.R c.K=.agg #[.int .i64 (c.size:Int),.int .i64 ((c.W:Int)-8),.int .i64 ((c.W:Int)-7),.int .i64 (ay c.W),.int .i64 (gM c.N c.W),.int .i64 (ic c.N c.W),.int .i64 (QW c.N c.W c.K),.int .i64 (AA c.N c.W c.K)]:=by
 unfold Ir
 have e:BA (c.N:Int) (c.W:Int) (c.R:Int)=(c.size:Int):=by
  unfold BA Cf.size
  simp[Int.natCast_add,Int.natCast_mul]
 rw[e]
set_option maxHeartbeats 400000 in
theorem LU(c:Cf)(w:World)(h:c.May):
  Calls Tryz.prog 34 #[c.val] w (Ui 92 161 126 w c):=by
 have HM:=hid h
 unfold Cf.val
 clear h
 go_enter Tryz.func34,Tryz.ntmps34
 go_wp2_with fail
 refine(UH _ HM.out Tu).mono ?_
 rintro e w1 ⟨rfl,hb⟩
 obtain⟨hc,hf⟩:=Hl hb
 have hz:w.heap.size<w1.heap.size:=by have:=hb.size;simp at this;omega
 have HB:=hid (below_step (below_new w _) hb)
 clear hb
 go_wp2_with fail
 refine(Pm c.size _ (by have:=HM.out.size;omega)).mono ?_
 rintro e w2 ⟨s,g,rfl,hS,hs,hg,hb⟩
 have HS:=hid hS
 have HB2:=hid hb
 have Hs:=hid hs
 have Hg:=hid hg
 obtain⟨hc2,hf2⟩:=Hl hb
 have hz2:w.heap.size<w2.heap.size:=by have:=hb.size;simp at this;omega
 have c0:w2.cell? ⟨w.heap.size,0,none⟩=some (.int .i64 (c.N:Int)):=by rw[hc2 _ _ (by simp;omega)];go_simp
 have c1:w2.cell? ⟨w.heap.size,1,none⟩=some (.int .i64 (c.W:Int)):=by rw[hc2 _ _ (by simp;omega)];go_simp
 have c2:w2.cell? ⟨w.heap.size,2,none⟩=some (.int .i64 (c.R:Int)):=by rw[hc2 _ _ (by simp;omega)];go_simp
 have c3:w2.cell? ⟨w.heap.size,3,none⟩=some (.int .i64 (c.K:Int)):=by rw[hc2 _ _ (by simp;omega)];go_simp
 clear hS hs hg hb hc hf hc2 hf2
 go_wp2_with fail
 go_ret2
 exact⟨⟨w2.heap.size,s,g⟩,rfl,⟨Blk.new w2 _ _,HS.out.alloc _,by simp,by have:=HS.out.head.lt;simp;omega,by have:=HS.out.body.lt;simp;omega,HM.out,He.iK _⟩,by
  have h1:=HB.out.size
  have h2:=HB2.out.size
  have h3:=Hs.out
  have h4:=Hg.out
  simp at h2 h3 h4
  intro k hk
  have hk':k=w2.heap.size∨k=s∨k=g:=hk
  omega,by
  have h1:=HB.out.size
  have h2:=HB2.out.size
  simp at h2
  exact((HB.out.alloc HB.out.size _).trans (HB2.out.mono (by simp;omega))).alloc (by omega) _⟩
def ae(c:Cf)(b v:Nat):Nat:=24+c.R+b*c.W+v
theorem eG{c:Cf}{b v:Nat}(hb:b<c.N)(hv:v<c.W):ae c b v<c.size:=lS hb hv
theorem fE{c:Cf}{b v:Nat}(hb:b<c.N)(hv:v<c.W):aB c (b:Int) (v:Int)=some (ae c b v):=by
 unfold aB
 rw[iP hb,iP hv]
 rfl
theorem av{c:Cf}{a b u v:Nat}(hu:u<c.W)(hv:v<c.W)(h:ae c a u=ae c b v):a=b∧u=v:=by
 unfold ae at h
 have h2:a*c.W+u=b*c.W+v:=by omega
 have e1:(a*c.W+u)/c.W=a:=by rw[Nat.add_comm,Nat.add_mul_div_right _ _ (by omega),Nat.div_eq_of_lt hu];omega
 have e2:(b*c.W+v)/c.W=b:=by rw[Nat.add_comm,Nat.add_mul_div_right _ _ (by omega),Nat.div_eq_of_lt hv];omega
 have:a=b:=by rw[←e1,←e2,h2]
 subst this
 exact⟨rfl,by omega⟩
theorem uz{c:Cf}{b v r:Nat}(hr:r<24):¬r=ae c b v:=by unfold ae;omega
theorem dx{c:Cf}{b v r:Nat}(hr:r<24):¬ae c b v=r:=by unfold ae;omega
theorem Gj{r:Nat}(h:r<24):nT (r:Int)=some r:=by
 unfold nT;rw[iP h];simp
theorem gQ(p:Pl)(c:Cf)(s:St)(r:Nat)(x y:Int)(w:World)(hG:G w p c s)(hr:r<24)(hx:x=(r:Int))(hy:nth s.zs r=y):
  Calls Tryz.prog 45 #[.pointer (some ⟨p.a,0,none⟩),.int .i64 x] w (GP w p c s.got (.int .i64 y)):=by
 subst hx hy
 have h:=PM p c s (r:Int) w hG
 rw[Gj hr] at h
 exact h
theorem aL(p:Pl)(c:Cf)(s:St)(r:Nat)(x y:Int)(w:World)(hG:G w p c s)(hr:r<24)(hx:x=(r:Int))(h0:0≤y)(h1:y≤4294967295):
  Calls Tryz.prog 37 #[.pointer (some ⟨p.a,0,none⟩),.int .i64 x,.int .i64 y] w (GP w p c (s.set r y) (.bool true)):=by
 subst hx
 have h:=Gp p c s (r:Int) y w hG
 rw[Gj hr] at h
 have e:s.Dw (some r) y=s.set r y:=by unfold St.Dw;rw[if_pos (Cm h0 h1)];rfl
 have e2:MU (some r) y=true:=by unfold MU;rw[Cm h0 h1];rfl
 rw[e,e2] at h
 exact h
theorem eF(p:Pl)(c:Cf)(s:St)(b v:Nat)(x z y:Int)(w:World)(hG:G w p c s)(hb:b<c.N)(hv:v<c.W)(hx:x=(b:Int))(hz:z=(v:Int))(hy:nth s.zs (ae c b v)=y):
  Calls Tryz.prog 51 #[.pointer (some ⟨p.a,0,none⟩),.int .i64 x,.int .i64 z] w (GP w p c s.got (.int .u32 y)):=by
 subst hx hz hy
 have h:=xn p c s (b:Int) (v:Int) w hG
 rw[fE hb hv] at h
 exact h
theorem aG(p:Pl)(c:Cf)(s:St)(b v:Nat)(x z y:Int)(w:World)(hG:G w p c s)(hb:b<c.N)(hv:v<c.W)(hx:x=(b:Int))(hz:z=(v:Int))(h0:0≤y)(h1:y≤4294967295):
  Calls Tryz.prog 120 #[.pointer (some ⟨p.a,0,none⟩),.int .i64 x,.int .i64 z,.int .u32 y] w (GP w p c (s.set (ae c b v) y) (.bool true)):=by
 subst hx hz
 have h:=DW p c s (b:Int) (v:Int) y w hG h0 h1
 rw[fE hb hv] at h
 exact h
theorem nX(p:Pl)(c:Cf)(s:St)(b v:Nat)(x z y:Int)(w:World)(hG:G w p c s)(hb:b<c.N)(hv:v<c.W)(hx:x=(b:Int))(hz:z=(v:Int))(hy:nth s.zs (ae c b v)=y):
  Calls Tryz.prog 109 #[.pointer (some ⟨p.a,0,none⟩),.int .i64 x,.int .i64 z] w fun e w'=>e=.returned (.int .u32 y)∧bR w w':=by
 subst hx hz hy
 have h:=tV p c s (b:Int) (v:Int) w hG
 rw[fE hb hv] at h
 exact h
theorem uQ(p:Pl)(c:Cf)(s:St)(r:Nat)(x y:Int)(w:World)(hG:G w p c s)(hr:r<24)(hx:x=(r:Int))(hy:nth s.zs r=y):
  Calls Tryz.prog 138 #[.pointer (some ⟨p.a,0,none⟩),.int .i64 x] w fun e w'=>e=.returned (.int .i64 y)∧w=w':=by
 subst hx hy
 have h:=Gn p c s (r:Int) w hG
 rw[Gj hr] at h
 exact h
theorem dK(p:Pl)(c:Cf)(s:St)(w:World)(hG:G w p c s):
  Calls Tryz.prog 23 #[.pointer (some ⟨p.a,0,none⟩)] w fun e w'=>e=.returned (.agg #[.int .i64 (c.N:Int),.int .i64 (c.W:Int),.int .i64 (c.R:Int),.int .i64 (c.K:Int)])∧Below w.heap.size w w':=yQ p c s w hG
theorem cfield0(a b c d:Int)(w:World):(Instr.field 23 (.agg #[.int .i64 a,.int .i64 b,.int .i64 c,.int .i64 d]) 0).run Tryz.prog w=.ok (.int .i64 a) w:=by kernel_rfl
theorem cfield1(a b c d:Int)(w:World):(Instr.field 23 (.agg #[.int .i64 a,.int .i64 b,.int .i64 c,.int .i64 d]) 1).run Tryz.prog w=.ok (.int .i64 b) w:=by kernel_rfl
theorem Hw{l l':List Int}(h:l.length=l'.length)(hn:∀i,i<l.length→nth l i=nth l' i):l=l':=by
 apply List.ext_getElem h
 intro i h1 h2
 have:=hn i h1
 unfold nth at this
 simpa[List.getD,h1,h2] using this
def MJ(n:Nat)(f:Nat→Int):List Int:=(List.range n).map f
theorem gP(n:Nat)(f:Nat→Int):(MJ n f).length=n:=by simp[MJ]
theorem dC{n:Nat}(f:Nat→Int){i:Nat}(h:i<n):nth (MJ n f) i=f i:=by unfold nth MJ;simp[List.getD,h]
theorem nI{l:List Int}{n:Nat}{f:Nat→Int}(h:l.length=n)(hn:∀i,i<n→nth l i=f i):l=MJ n f:=
 Hw (by rw[gP,h]) (fun i hi=>by rw[dC f (by omega)];exact hn i (by omega))
theorem aS{zs:List Int}{k:Nat}(hk:k<zs.length)(v:Int)(i:Nat):nth (zs.set k v) i=if i=k then v else nth zs i:=by
 by_cases h:i=k
 ·subst h;rw[aN hk,if_pos rfl]
 ·rw[ai (fun e=>h e.symm),if_neg h]
def fD(c:Cf)(b:Nat):Nat:=24+c.R+b*c.W+5
theorem jZ{c:Cf}{b:Nat}(hm:c.May)(hb:b<c.N):fD c b<c.size:=lS hb (by have:=hm.w;omega)
theorem qD{c:Cf}(hm:c.May){a b:Nat}(h:fD c a=fD c b):a=b:=by
 have hw:=hm.w
 unfold fD at h
 have h2:a*c.W=b*c.W:=by omega
 exact Nat.eq_of_mul_eq_mul_right (by omega) h2
theorem mh{c:Cf}{b r:Nat}(hr:r<24):¬r=fD c b:=by unfold fD;omega
theorem bT{c:Cf}{b r:Nat}(hr:r<24):¬fD c b=r:=by unfold fD;omega
def jo:List Nat→Int
 |[]=>0
 |b::_=>(b:Int)+1
def kg:List Nat→Int
 |[]=>0
 |[b]=>(b:Int)+1
 |_::b::t=>kg (b::t)
theorem oJ:∀{l:List Nat},kg l=0→l=[]
 |[],_=>rfl
 |[b],h=>absurd (show((b:Int)+1)=0 from h) (by omega)
 |_::b::t,h=>absurd (oJ (l:=b::t) h) (by simp)
theorem jO:∀(l:List Nat) (b:Nat),kg (l++[b])=(b:Int)+1
 |[],b=>rfl
 |[a],b=>rfl
 |a::a'::t,b=>jO (a'::t) b
theorem gB:∀(l:List Nat),l≠[]→∃b,b∈l∧kg l=(b:Int)+1
 |[],h=>absurd rfl h
 |[b],_=>⟨b,by simp,rfl⟩
 |a::b::t,_=>by
  obtain⟨x,hx,he⟩:=gB (b::t) (by simp)
  exact⟨x,by simp at hx ⊢;exact Or.inr hx,he⟩
theorem yP(l:List Nat)(b:Nat):jo (l++[b])=if l=[] then(b:Int)+1 else jo l:=by
 cases l with
 |nil=>rfl
 |cons a t=>rfl
def mV(c:Cf)(zs:List Int):List Nat→Prop
 |[]=>True
 |b::t=>nth zs (fD c b)=jo t∧mV c zs t
theorem mV.congr{c:Cf}{zs zs':List Int}:∀{l:List Nat},mV c zs l→(∀b,b∈l→nth zs' (fD c b)=nth zs (fD c b))→mV c zs' l
 |[],_,_=>trivial
 |b::t,h,hc=>⟨by rw[hc b (by simp)];exact h.1,mV.congr h.2 (fun x hx=>hc x (by simp[hx]))⟩
theorem mV.snoc{c:Cf}{zs zs':List Int}{b:Nat}(hb:nth zs' (fD c b)=0):∀{l:List Nat},mV c zs l→l.Nodup→(∀a,a∈l→nth zs' (fD c a)=if kg l=(a:Int)+1 then(b:Int)+1 else nth zs (fD c a))→mV c zs' (l++[b])
 |[],_,_,_=>⟨hb,trivial⟩
 |[a],h,_,hc=>⟨by rw[hc a (by simp),if_pos (show kg [a]=(a:Int)+1 from rfl)];rfl,hb,trivial⟩
 |a::a'::t,h,hn,hc=>by
  refine⟨?_,mV.snoc hb (l:=a'::t) h.2 (List.nodup_cons.1 hn).2 (fun x hx=>hc x (List.mem_cons_of_mem _ hx))⟩
  have hne:kg (a::a'::t)≠(a:Int)+1:=by
   intro e
   obtain⟨x,hx,he⟩:=gB (a'::t) (by simp)
   have:x=a:=by have:kg (a::a'::t)=(x:Int)+1:=he;omega
   subst this
   exact(List.nodup_cons.1 hn).1 hx
  rw[hc a (by simp),if_neg hne]
  exact h.1
structure aK (c:Cf) (zs:List Int) (k:Nat) (l:List Nat):Prop where
 r0:nth zs (3*k)=jo l
 r1:nth zs (3*k+1)=kg l
 r2:nth zs (3*k+2)=(l.length:Int)
 lt:∀b,b∈l→b<c.N
 nd:l.Nodup
 ln:mV c zs l
theorem bN:∀{N:Nat} {l:List Nat},l.Nodup→(∀b,b∈l→b<N)→l.length≤N
 |0,[],_,_=>Nat.le_refl _
 |0,b::t,_,hl=>absurd (hl b (by simp)) (by omega)
 |N+1,l,hn,hl=>by
  by_cases h:N∈l
  ·have h1:=bN (N:=N) (l:=l.erase N) (hn.erase N) (fun b hb=>by
    have h2:=(hn.mem_erase_iff).1 hb
    have:=hl b h2.2
    have:=h2.1
    omega)
   rw[List.length_erase_of_mem h] at h1
   omega
  ·have h1:=bN (N:=N) (l:=l) hn (fun b hb=>by
    have:=hl b hb
    have:b≠N:=fun e=>h (by rw[←e];exact hb)
    omega)
   omega
theorem aK.congr{c:Cf}{zs zs':List Int}{k:Nat}{l:List Nat}(h:aK c zs k l)(h0:nth zs' (3*k)=nth zs (3*k))(h1:nth zs' (3*k+1)=nth zs (3*k+1))(h2:nth zs' (3*k+2)=nth zs (3*k+2))
  (hc:∀b,b∈l→nth zs' (fD c b)=nth zs (fD c b)):aK c zs' k l:=
 ⟨h0.trans h.r0,h1.trans h.r1,h2.trans h.r2,h.lt,h.nd,h.ln.congr hc⟩
def mY(c:Cf)(k b:Nat)(zs:List Int)(i:Nat):Int:=
 if i=3*k+2 then nth zs (3*k+2)+1 else if i=3*k then(b:Int)+1 else if i=3*k+1 then(if nth zs (3*k)=0 then(b:Int)+1 else nth zs (3*k+1)) else if i=fD c b then nth zs (3*k) else nth zs i
def addN(c:Cf)(k b:Nat)(zs:List Int)(i:Nat):Int:=
 if i=3*k+2 then nth zs (3*k+2)+1 else if i=3*k then(if nth zs (3*k+1)=0 then(b:Int)+1 else nth zs (3*k)) else if i=3*k+1 then(b:Int)+1 else if i=fD c b then 0
 else if nth zs (3*k+1)≠0∧i=fD c (nth zs (3*k+1)-1).toNat then(b:Int)+1 else nth zs i
def takeN(c:Cf)(k b:Nat)(zs:List Int)(i:Nat):Int:=
 if i=3*k+2 then nth zs (3*k+2)-1 else if i=3*k then nth zs (fD c b) else if i=3*k+1 then(if nth zs (fD c b)=0 then 0 else nth zs (3*k+1)) else if i=fD c b then 0 else nth zs i
def nQ(c:Cf)(k b:Nat)(zs:List Int):List Int:=MJ zs.length (mY c k b zs)
def iJ(c:Cf)(k b:Nat)(zs:List Int):List Int:=MJ zs.length (addN c k b zs)
def dU(c:Cf)(k b:Nat)(zs:List Int):List Int:=MJ zs.length (takeN c k b zs)
theorem qQ(c:Cf)(k b:Nat)(zs:List Int):(nQ c k b zs).length=zs.length:=gP _ _
theorem jc(c:Cf)(k b:Nat)(zs:List Int):(iJ c k b zs).length=zs.length:=gP _ _
theorem dM(c:Cf)(k b:Nat)(zs:List Int):(dU c k b zs).length=zs.length:=gP _ _
section
variable {c:Cf} {zs:List Int} {k b:Nat} {l:List Nat}
theorem aK.push(h:aK c zs k l)(hm:c.May)(hz:zs.length=c.size)(hk:k<2)(hb:b<c.N)(hn:b∉l):aK c (nQ c k b zs) k (b::l):=by
 have hs:=hm.size
 have g:∀i,i<c.size→nth (nQ c k b zs) i=mY c k b zs i:=fun i hi=>dC _ (by omega)
 have gl:∀x,x<c.N→nth (nQ c k b zs) (fD c x)=if x=b then nth zs (3*k) else nth zs (fD c x):=fun x hx=>by
  rw[g _ (jZ hm hx)]
  unfold mY
  rw[if_neg (bT (by omega)),if_neg (bT (by omega)),if_neg (bT (by omega))]
  by_cases e:x=b
  ·subst e;rw[if_pos rfl,if_pos rfl]
  ·rw[if_neg (fun h=>e (qD hm h)),if_neg e]
 refine⟨?_,?_,?_,?_,List.nodup_cons.2 ⟨hn,h.nd⟩,?_,?_⟩
 ·rw[g _ (by omega)];unfold mY;rw[if_neg (by omega),if_pos rfl];rfl
 ·rw[g _ (by omega)];unfold mY;rw[if_neg (by omega),if_neg (by omega),if_pos rfl,h.r0,h.r1]
  cases l with
  |nil=>rfl
  |cons a t=>rw[if_neg (show ¬(jo (a::t)=0) from fun e=>absurd (show((a:Int)+1)=0 from e) (by omega))];rfl
 ·rw[g _ (by omega)];unfold mY;rw[if_pos rfl,h.r2];simp
 ·intro x hx
  rcases List.mem_cons.1 hx with rfl|hx
  ·exact hb
  ·exact h.lt x hx
 ·rw[gl b hb,if_pos rfl];exact h.r0
 ·exact h.ln.congr (fun x hx=>by rw[gl x (h.lt x hx),if_neg (fun e:x=b=>hn (by rw[←e];exact hx))])
theorem aK.add(h:aK c zs k l)(hm:c.May)(hz:zs.length=c.size)(hk:k<2)(hb:b<c.N)(hn:b∉l):aK c (iJ c k b zs) k (l++[b]):=by
 have hs:=hm.size
 have g:∀i,i<c.size→nth (iJ c k b zs) i=addN c k b zs i:=fun i hi=>dC _ (by omega)
 have gl:∀x,x<c.N→x≠b→nth (iJ c k b zs) (fD c x)=if kg l=(x:Int)+1 then(b:Int)+1 else nth zs (fD c x):=fun x hx e=>by
  rw[g _ (jZ hm hx)]
  unfold addN
  rw[if_neg (bT (by omega)),if_neg (bT (by omega)),if_neg (bT (by omega)),if_neg (fun h=>e (qD hm h)),h.r1]
  by_cases e2:kg l=(x:Int)+1
  ·rw[if_pos e2,if_pos ⟨by omega,by rw[e2];congr 1;omega⟩]
  ·rw[if_neg e2,if_neg]
   rintro⟨h1,h2⟩
   have h3:=qD hm h2
   obtain⟨y,_,hy⟩:=gB l (fun h=>h1 (by rw[h];rfl))
   rw[hy] at h3
   exact e2 (by rw[hy];omega)
 have gb:nth (iJ c k b zs) (fD c b)=0:=by
  rw[g _ (jZ hm hb)]
  unfold addN
  rw[if_neg (bT (by omega)),if_neg (bT (by omega)),if_neg (bT (by omega)),if_pos rfl]
 refine⟨?_,?_,?_,?_,?_,?_⟩
 ·rw[g _ (by omega)];unfold addN;rw[if_neg (by omega),if_pos rfl,h.r1,h.r0,yP]
  by_cases e:l=[]
  ·subst e;rfl
  ·rw[if_neg (fun h=>e (oJ h)),if_neg e]
 ·rw[g _ (by omega)];unfold addN;rw[if_neg (by omega),if_neg (by omega),if_pos rfl,jO]
 ·rw[g _ (by omega)];unfold addN;rw[if_pos rfl,h.r2];simp
 ·intro x hx
  rcases List.mem_append.1 hx with hx|hx
  ·exact h.lt x hx
  ·simp at hx;subst hx;exact hb
 ·rw[List.nodup_append]
  exact⟨h.nd,by simp,fun x hx y hy=>by simp at hy;subst hy;exact fun e=>hn (by rw[←e];exact hx)⟩
 ·exact mV.snoc gb h.ln h.nd (fun x hx=>gl x (h.lt x hx) (fun e=>hn (by rw[←e];exact hx)))
theorem aK.take(h:aK c zs k (b::l))(hm:c.May)(hz:zs.length=c.size)(hk:k<2):aK c (dU c k b zs) k l∧nth (dU c k b zs) (fD c b)=0:=by
 have hs:=hm.size
 have hb:=h.lt b (by simp)
 have hn:=(List.nodup_cons.1 h.nd).1
 have hl:=h.ln.1
 have g:∀i,i<c.size→nth (dU c k b zs) i=takeN c k b zs i:=fun i hi=>dC _ (by omega)
 have gl:∀x,x<c.N→nth (dU c k b zs) (fD c x)=if x=b then 0 else nth zs (fD c x):=fun x hx=>by
  rw[g _ (jZ hm hx)]
  unfold takeN
  rw[if_neg (bT (by omega)),if_neg (bT (by omega)),if_neg (bT (by omega))]
  by_cases e:x=b
  ·subst e;rw[if_pos rfl,if_pos rfl]
  ·rw[if_neg (fun h=>e (qD hm h)),if_neg e]
 refine⟨⟨?_,?_,?_,fun x hx=>h.lt x (by simp[hx]),(List.nodup_cons.1 h.nd).2,?_⟩,by rw[gl b hb,if_pos rfl]⟩
 ·rw[g _ (by omega)];unfold takeN;rw[if_neg (by omega),if_pos rfl];exact hl
 ·rw[g _ (by omega)];unfold takeN;rw[if_neg (by omega),if_neg (by omega),if_pos rfl,hl,h.r1]
  cases l with
  |nil=>rfl
  |cons a t=>rw[if_neg (show ¬(jo (a::t)=0) from fun e=>absurd (show((a:Int)+1)=0 from e) (by omega))];rfl
 ·rw[g _ (by omega)];unfold takeN;rw[if_pos rfl,h.r2];simp
 ·exact h.ln.2.congr (fun x hx=>by rw[gl x (h.lt x (by simp[hx])),if_neg (fun e:x=b=>hn (by rw[←e];exact hx))])
end
def iO(c:Cf)(f:FuncId)(args:List Value)(zs:List Int)(B:Nat)(zs':List Int)(v:Value):Prop:=
 ∃d,d≤B∧∀(p:Pl) (m:Nat) (w:World),G w p c ⟨zs,m⟩→Calls Tryz.prog f (List.toArray (.pointer (some ⟨p.a,0,none⟩)::args)) w (GP w p c ⟨zs',m+d⟩ v)
structure Wz (c:Cf) (zs:List Int):Prop where
 may:c.May
 len:zs.length=c.size
 wf:He zs
theorem kX.wz{tg ts e:TypeId}{w:World}{p:Pl}{c:Cf}{s:St}(h:kX tg ts e w p c s):Wz c s.zs:=⟨h.may,h.len,h.wf⟩
theorem kX.dH{tg ts e:TypeId}{w:World}{p:Pl}{c:Cf}{s:St}(h:kX tg ts e w p c s){i:Nat}(hi:ofG p i):i<w.heap.size:=by
 rcases hi with rfl|rfl|rfl
 ·exact h.head.lt
 ·exact h.st.head.lt
 ·exact h.st.body.lt
def Looks(c:Cf)(f:FuncId)(args:List Value)(zs:List Int)(Q:World→Ending→World→Prop):Prop:=
 ∀(p:Pl) (m:Nat) (w:World),G w p c ⟨zs,m⟩→Calls Tryz.prog f (List.toArray (.pointer (some ⟨p.a,0,none⟩)::args)) w (Q w)
def dw(x:Int):Prop:=bZ (uK x) (uC x) (uN x) (uS x) (uD x) (uG x) (uO x)∧x/128%2=0∧0≤x
def bJ(x:Int):Prop:=uK x=1∨uK x=2
theorem dw.pack{x:Int}(h:dw x):cz (uK x) (uC x) (uN x) (uS x) (uD x) (uG x) (uO x)=x:=by
 rw[Dk,h.2.1];omega
theorem dw.bd{x:Int}(h:dw x):0≤x∧x≤268435455:=by
 obtain⟨⟨_,⟨o0,o1⟩,_⟩,h7,h0⟩:=h
 unfold uO at o1
 omega
theorem NH(x:Int):uG x=0∨uG x=1:=by unfold uG;omega
theorem dw.Qz{x:Int}(h:dw x)(hk:bJ x)(hg:uG x=0):
  dw (x+64)∧cz (uK x) (uC x) (uN x) (uS x) (uD x) 1 (uO x)=x+64∧bZ (uK x) (uC x) (uN x) (uS x) (uD x) 1 (uO x)∧uK (x+64)=uK x∧uC (x+64)=uC x∧uN (x+64)=uN x∧uS (x+64)=uS x∧uD (x+64)=uD x∧uG (x+64)=1∧uO (x+64)=uO x:=by
 have e0:uK (x+64)=uK x:=by unfold uK;omega
 have e1:uC (x+64)=uC x:=by unfold uC;omega
 have e2:uN (x+64)=uN x:=by unfold uN;omega
 have e3:uS (x+64)=uS x:=by unfold uS;omega
 have e4:uD (x+64)=uD x:=by unfold uD;omega
 have e5:uG (x+64)=1:=by unfold uG at hg ⊢;omega
 have h7:=h.2.1
 have e6:uO (x+64)=uO x:=by unfold uO;unfold uG at hg;omega
 have r:=h.1
 have hr:bZ (uK x) (uC x) (uN x) (uS x) (uD x) 1 (uO x):=by
  unfold bJ at hk
  exact⟨r.1,r.2.1,r.2.2.1,r.2.2.2.1,r.2.2.2.2.1,r.2.2.2.2.2.1,r.2.2.2.2.2.2.1,by omega,fun h=>by omega⟩
 refine⟨⟨by rw[e0,e1,e2,e3,e4,e5,e6];exact hr,by unfold uG at hg;omega,by have:=h.2.2;omega⟩,?_,hr,e0,e1,e2,e3,e4,e5,e6⟩
 have hp:=h.pack
 rw[hg] at hp
 unfold cz at hp ⊢
 omega
theorem dw.Qy{x:Int}(h:dw x)(hk:bJ x)(hg:uG x=1):
  dw (x-64)∧cz (uK x) (uC x) (uN x) (uS x) (uD x) 0 (uO x)=x-64∧bZ (uK x) (uC x) (uN x) (uS x) (uD x) 0 (uO x)∧uK (x-64)=uK x∧uC (x-64)=uC x∧uN (x-64)=uN x∧uS (x-64)=uS x∧uD (x-64)=uD x∧uG (x-64)=0∧uO (x-64)=uO x:=by
 have e0:uK (x-64)=uK x:=by unfold uK;omega
 have e1:uC (x-64)=uC x:=by unfold uC;omega
 have e2:uN (x-64)=uN x:=by unfold uN;omega
 have e3:uS (x-64)=uS x:=by unfold uS;omega
 have e4:uD (x-64)=uD x:=by unfold uD;omega
 have e5:uG (x-64)=0:=by unfold uG at hg ⊢;omega
 have h7:=h.2.1
 have e6:uO (x-64)=uO x:=by unfold uO;unfold uG at hg;omega
 have r:=h.1
 have hr:bZ (uK x) (uC x) (uN x) (uS x) (uD x) 0 (uO x):=by
  unfold bJ at hk
  exact⟨r.1,r.2.1,r.2.2.1,r.2.2.2.1,r.2.2.2.2.1,r.2.2.2.2.2.1,r.2.2.2.2.2.2.1,by omega,fun h=>by omega⟩
 refine⟨⟨by rw[e0,e1,e2,e3,e4,e5,e6];exact hr,by unfold uG at hg;omega,by have:=h.2.2;unfold uG at hg;omega⟩,?_,hr,e0,e1,e2,e3,e4,e5,e6⟩
 have hp:=h.pack
 rw[hg] at hp
 unfold cz at hp ⊢
 omega
def xB:List Nat→Int→Int
 |[],z=>z
 |b::_,_=>(b:Int)+1
def CO:List Nat→Int→Int
 |[],a=>a
 |b::t,_=>CO t ((b:Int)+1)
theorem LC(l:List Nat):xB l 0=jo l:=by cases l<;>rfl
theorem JA(l:List Nat)(b:Nat)(a:Int):CO (l++[b]) a=(b:Int)+1:=by
 induction l generalizing a with
 |nil=>rfl
 |cons x t ih=>exact ih _
theorem rX(l:List Nat):CO l 0=kg l:=by
 rcases List.eq_nil_or_concat l with rfl|⟨t,x,rfl⟩
 ·rfl
 ·rw[List.concat_eq_append,JA,jO]
theorem Ct(l1 l2:List Nat)(z:Int):xB (l1++l2) z=xB l1 (xB l2 z):=by cases l1<;>rfl
theorem tJ(l1 l2:List Nat)(a:Int):CO (l1++l2) a=CO l2 (CO l1 a):=by
 induction l1 generalizing a with
 |nil=>rfl
 |cons x t ih=>exact ih _
def Seg(c:Cf)(zs:List Int):Int→List Nat→Int→Prop
 |_,[],_=>True
 |a,b::t,z=>nth zs (ae c b 6)=a∧nth zs (ae c b 7)=xB t z∧Seg c zs ((b:Int)+1) t z
theorem Seg.congr{c:Cf}{zs zs':List Int}{l:List Nat}{a z:Int}(h:Seg c zs a l z)(hc:∀b,b∈l→nth zs' (ae c b 6)=nth zs (ae c b 6)∧nth zs' (ae c b 7)=nth zs (ae c b 7)):Seg c zs' a l z:=by
 induction l generalizing a with
 |nil=>trivial
 |cons b t ih=>exact⟨by rw[(hc b (by simp)).1];exact h.1,by rw[(hc b (by simp)).2];exact h.2.1,ih h.2.2 (fun x hx=>hc x (by simp[hx]))⟩
theorem gK{c:Cf}{zs:List Int}{l1 l2:List Nat}{a z:Int}:Seg c zs a (l1++l2) z↔Seg c zs a l1 (xB l2 z)∧Seg c zs (CO l1 a) l2 z:=by
 induction l1 generalizing a with
 |nil=>exact⟨fun h=>⟨trivial,h⟩,fun h=>h.2⟩
 |cons b t ih=>
  show(nth zs (ae c b 6)=a∧nth zs (ae c b 7)=xB (t++l2) z∧Seg c zs ((b:Int)+1) (t++l2) z)↔(nth zs (ae c b 6)=a∧nth zs (ae c b 7)=xB t (xB l2 z)∧Seg c zs ((b:Int)+1) t (xB l2 z))∧Seg c zs (CO t ((b:Int)+1)) l2 z
  rw[ih,Ct]
  exact⟨fun h=>⟨⟨h.1,h.2.1,h.2.2.1⟩,h.2.2.2⟩,fun h=>⟨h.1.1,h.1.2.1,h.1.2.2,h.2⟩⟩
structure RingAt (c:Cf) (zs:List Int) (l:List Nat):Prop where
 r7:nth zs 7=jo l
 r8:nth zs 8=kg l
 r9:nth zs 9=(l.length:Int)
 lt:∀b,b∈l→b<c.N
 nd:l.Nodup
 seg:Seg c zs 0 l 0
 tok:∀b,b<c.N→dw (nth zs (ae c b 0))
 hd:∀b,b∈l→bJ (nth zs (ae c b 0))
 mrk:∀b,b<c.N→(uG (nth zs (ae c b 0))=1↔b∈l)
theorem RingAt.Tq{c:Cf}{zs:List Int}{l:List Nat}(h:RingAt c zs l){b:Nat}(hb:b<c.N)(hn:b∉l):uG (nth zs (ae c b 0))=0:=by
 rcases NH (nth zs (ae c b 0)) with h0|h1
 ·exact h0
 ·exact absurd ((h.mrk b hb).1 h1) hn
theorem RingAt.split{c:Cf}{zs:List Int}{l1 l2:List Nat}{b:Nat}(h:RingAt c zs (l1++b::l2)):nth zs (ae c b 6)=kg l1∧nth zs (ae c b 7)=jo l2:=by
 have:=(gK.1 h.seg).2
 exact⟨by rw[this.1,rX],by rw[this.2.1,LC]⟩
theorem Ea{l:List Nat}{b:Nat}(h:b∈l):∃l1 l2,l=l1++b::l2:=List.append_of_mem h
def dY(c:Cf)(b:Nat)(zs:List Int)(i:Nat):Int:=
 if i=7 then(if nth zs 8=0 then(b:Int)+1 else nth zs 7) else if i=8 then(b:Int)+1 else if i=9 then nth zs 9+1
 else if i=ae c b 0 then nth zs (ae c b 0)+64 else if i=ae c b 6 then nth zs 8 else if i=ae c b 7 then 0
 else if nth zs 8≠0∧i=ae c (nth zs 8-1).toNat 7 then(b:Int)+1 else nth zs i
def dZ(c:Cf)(b:Nat)(zs:List Int)(i:Nat):Int:=
 if i=7 then(if nth zs (ae c b 6)=0 then nth zs (ae c b 7) else nth zs 7) else if i=8 then(if nth zs (ae c b 7)=0 then nth zs (ae c b 6) else nth zs 8) else if i=9 then nth zs 9-1
 else if i=ae c b 0 then nth zs (ae c b 0)-64 else if i=ae c b 6 then 0 else if i=ae c b 7 then 0
 else if nth zs (ae c b 6)≠0∧i=ae c (nth zs (ae c b 6)-1).toNat 7 then nth zs (ae c b 7)
 else if nth zs (ae c b 7)≠0∧i=ae c (nth zs (ae c b 7)-1).toNat 6 then nth zs (ae c b 6) else nth zs i
def aY(c:Cf)(b:Nat)(zs:List Int):List Int:=MJ zs.length (dY c b zs)
def aT(c:Cf)(b:Nat)(zs:List Int):List Int:=MJ zs.length (dZ c b zs)
theorem mZ(c:Cf)(b:Nat)(zs:List Int):(aY c b zs).length=zs.length:=gP _ _
theorem ni(c:Cf)(b:Nat)(zs:List Int):(aT c b zs).length=zs.length:=gP _ _
theorem jQ{c:Cf}(hm:c.May){a b u v:Nat}(hu:u<16)(hv:v<16):(ae c a u=ae c b v)↔(a=b∧u=v):=by
 have:=hm.w
 exact⟨fun h=>av (by omega) (by omega) h,fun h=>by rw[h.1,h.2]⟩
theorem ib{c:Cf}(hm:c.May){b u:Nat}(hb:b<c.N)(hu:u<16):ae c b u<c.size:=by
 have:=hm.w
 exact eG hb (by omega)
section
variable {c:Cf} {zs:List Int} {b:Nat} {l:List Nat}
theorem RingAt.add(h:RingAt c zs l)(hm:c.May)(hz:zs.length=c.size)(hb:b<c.N)(hn:b∉l)(hk:bJ (nth zs (ae c b 0))):RingAt c (aY c b zs) (l++[b]):=by
 have hs:=hm.size
 have g:∀i,i<c.size→nth (aY c b zs) i=dY c b zs i:=fun i hi=>dC _ (by omega)
 have hR:∀(x u r:Nat),r<24→¬ae c x u=r:=fun x u r hr=>dx hr
 have hR':∀(x u r:Nat),r<24→¬r=ae c x u:=fun x u r hr=>uz hr
 have g0:∀x,x<c.N→nth (aY c b zs) (ae c x 0)=if x=b then nth zs (ae c b 0)+64 else nth zs (ae c x 0):=fun x hx=>by
  rw[g _ (ib hm hx (by omega))]
  unfold dY
  simp[hR,jQ hm]
 have g6:∀x,x<c.N→nth (aY c b zs) (ae c x 6)=if x=b then nth zs 8 else nth zs (ae c x 6):=fun x hx=>by
  rw[g _ (ib hm hx (by omega))]
  unfold dY
  simp[hR,jQ hm]
 have g7:∀x,x<c.N→nth (aY c b zs) (ae c x 7)=if x=b then 0 else if nth zs 8≠0∧x=(nth zs 8-1).toNat then(b:Int)+1 else nth zs (ae c x 7):=fun x hx=>by
  rw[g _ (ib hm hx (by omega))]
  unfold dY
  simp[hR,jQ hm]
 have ht:=h.tok b hb
 have hg0:=h.Tq hb hn
 obtain⟨t1,_,_,k1,_,_,_,_,g1,_⟩:=ht.Qz hk hg0
 refine⟨?_,?_,?_,?_,?_,?_,?_,?_,?_⟩
 ·rw[g _ (by omega)];unfold dY;rw[if_pos rfl,h.r8,h.r7,yP]
  by_cases e:l=[]
  ·subst e;rfl
  ·rw[if_neg (fun h=>e (oJ h)),if_neg e]
 ·rw[g _ (by omega)];unfold dY;rw[if_neg (by omega),if_pos rfl,jO]
 ·rw[g _ (by omega)];unfold dY;rw[if_neg (by omega),if_neg (by omega),if_pos rfl,h.r9];simp
 ·intro x hx
  rcases List.mem_append.1 hx with hx|hx
  ·exact h.lt x hx
  ·simp at hx;subst hx;exact hb
 ·rw[List.nodup_append]
  exact⟨h.nd,by simp,fun x hx y hy=>by simp at hy;subst hy;exact fun e=>hn (by rw[←e];exact hx)⟩
 ·rw[gK]
  refine⟨?_,⟨by rw[g6 b hb,if_pos rfl,h.r8,rX],by rw[g7 b hb,if_pos rfl];rfl,trivial⟩⟩
  show Seg c _ 0 l ((b:Int)+1)
  rcases List.eq_nil_or_concat l with rfl|⟨t,x,rfl⟩
  ·trivial
  ·rw[List.concat_eq_append] at h hn ⊢
   have hx:=h.lt x (by simp)
   have hxb:x≠b:=fun e=>hn (by simp[e])
   have h8:nth zs 8=(x:Int)+1:=by rw[h.r8,jO]
   have hnd:=List.nodup_append.1 h.nd
   obtain⟨s1,s2,s3,_⟩:=gK.1 h.seg
   rw[gK]
   refine⟨s1.congr (fun y hy=> ?_),?_,?_,trivial⟩
   ·have hyN:=h.lt y (by simp[hy])
    have hyb:y≠b:=fun e=>hn (by simp[←e,hy])
    have hyx:y≠x:=fun e=>hnd.2.2 y hy x (by simp) e
    rw[g6 y hyN,if_neg hyb,g7 y hyN,if_neg hyb,h8,if_neg (by omega)]
    exact⟨rfl,rfl⟩
   ·rw[g6 x hx,if_neg hxb];exact s2
   ·rw[g7 x hx,if_neg hxb,h8,if_pos ⟨by omega,by omega⟩];rfl
 ·intro x hx
  rw[g0 x hx]
  by_cases e:x=b
  ·rw[if_pos e];exact t1
  ·rw[if_neg e];exact h.tok x hx
 ·intro x hx
  rcases List.mem_append.1 hx with hx|hx
  ·have:x≠b:=fun e=>hn (by rw[←e];exact hx)
   rw[g0 x (h.lt x hx),if_neg this];exact h.hd x hx
  ·simp at hx;subst hx
   rw[g0 x hb,if_pos rfl];unfold bJ at hk ⊢;rw[k1];exact hk
 ·intro x hx
  rw[g0 x hx]
  by_cases e:x=b
  ·rw[if_pos e,g1];simp[e]
  ·rw[if_neg e,h.mrk x hx];simp[e]
theorem RingAt.cut{l1 l2:List Nat}(h:RingAt c zs (l1++b::l2))(hm:c.May)(hz:zs.length=c.size):RingAt c (aT c b zs) (l1++l2):=by
 have hs:=hm.size
 have hb:=h.lt b (by simp)
 have g:∀i,i<c.size→nth (aT c b zs) i=dZ c b zs i:=fun i hi=>dC _ (by omega)
 have hR:∀(x u r:Nat),r<24→¬ae c x u=r:=fun x u r hr=>dx hr
 obtain⟨hp,hq⟩:=h.split
 have g0:∀x,x<c.N→nth (aT c b zs) (ae c x 0)=if x=b then nth zs (ae c b 0)-64 else nth zs (ae c x 0):=fun x hx=>by
  rw[g _ (ib hm hx (by omega))]
  unfold dZ
  simp[hR,jQ hm]
 have g6:∀x,x<c.N→nth (aT c b zs) (ae c x 6)=if x=b then 0 else if jo l2≠0∧x=(jo l2-1).toNat then kg l1 else nth zs (ae c x 6):=fun x hx=>by
  rw[g _ (ib hm hx (by omega))]
  unfold dZ
  rw[hp,hq]
  simp[hR,jQ hm]
 have g7:∀x,x<c.N→nth (aT c b zs) (ae c x 7)=if x=b then 0 else if kg l1≠0∧x=(kg l1-1).toNat then jo l2 else nth zs (ae c x 7):=fun x hx=>by
  rw[g _ (ib hm hx (by omega))]
  unfold dZ
  rw[hp,hq]
  simp[hR,jQ hm]
 have ht:=h.tok b hb
 have hg1:=(h.mrk b hb).2 (by simp)
 obtain⟨t1,_,_,k1,_,_,_,_,g1,_⟩:=ht.Qy (h.hd b (by simp)) hg1
 have hnd:=h.nd
 rw[List.nodup_append] at hnd
 obtain⟨n1,n2,n3⟩:=hnd
 obtain⟨n4,n5⟩:=List.nodup_cons.1 n2
 have hb1:b∉l1:=fun hx=>n3 b hx b (by simp) rfl
 have n6:∀x,x∈l1→x∉l2:=fun x hx hy=>n3 x hx x (by simp[hy]) rfl
 have hmem:∀x,x∈l1++l2→x∈l1++b::l2:=fun x hx=>by
  rcases List.mem_append.1 hx with hx|hx
  ·simp[hx]
  ·simp[hx]
 have hne:∀x,x∈l1++l2→x≠b:=fun x hx e=>by
  rcases List.mem_append.1 hx with hx|hx
  ·exact hb1 (by rw[←e];exact hx)
  ·exact n4 (by rw[←e];exact hx)
 obtain⟨s1,s2⟩:=gK.1 h.seg
 obtain⟨s3,s4,s5⟩:=s2
 have hf2:∀x,jo l2≠0∧x=(jo l2-1).toNat→x∈l2:=by
  rintro x ⟨h1,h2⟩
  cases l2 with
  |nil=>exact absurd rfl h1
  |cons y t=>
   have:jo (y::t)=(y:Int)+1:=rfl
   rw[this] at h2
   have:x=y:=by omega
   rw[this];simp
 have hl1:∀x,kg l1≠0∧x=(kg l1-1).toNat→x∈l1:=by
  rintro x ⟨h1,h2⟩
  obtain⟨y,hy,he⟩:=gB l1 (fun e=>h1 (by rw[e];rfl))
  rw[he] at h2
  have:x=y:=by omega
  rw[this];exact hy
 refine⟨?_,?_,?_,?_,?_,?_,?_,?_,?_⟩
 ·rw[g _ (by omega)];unfold dZ;rw[if_pos rfl,hp,hq,h.r7]
  cases l1 with
  |nil=>rfl
  |cons x t=>rw[if_neg (fun e=>absurd (oJ e) (by simp))];rfl
 ·rw[g _ (by omega)];unfold dZ;rw[if_neg (by omega),if_pos rfl,hp,hq,h.r8,←rX,←rX,←rX,tJ,tJ]
  cases l2 with
  |nil=>rfl
  |cons y t=>rw[if_neg (show ¬(jo (y::t)=0) from fun e=>absurd (show((y:Int)+1)=0 from e) (by omega))];rfl
 ·rw[g _ (by omega)];unfold dZ;rw[if_neg (by omega),if_neg (by omega),if_pos rfl,h.r9];simp;omega
 ·intro x hx;exact h.lt x (hmem x hx)
 ·rw[List.nodup_append]
  exact⟨n1,n5,fun x hx y hy e=>n6 x hx (by rw[e];exact hy)⟩
 ·rw[gK]
  constructor
  ·rw[LC]
   rcases List.eq_nil_or_concat l1 with rfl|⟨t,x,rfl⟩
   ·trivial
   ·rw[List.concat_eq_append] at*
    have hx:=h.lt x (by simp)
    have hxb:=hne x (by simp)
    have hl:kg (t++[x])=(x:Int)+1:=jO t x
    have hnt:=List.nodup_append.1 n1
    rw[gK] at s1 ⊢
    obtain⟨u1,u2,u3,_⟩:=s1
    refine⟨u1.congr (fun y hy=> ?_),?_,?_,trivial⟩
    ·have hyN:=h.lt y (by simp[hy])
     have hyb:=hne y (by simp[hy])
     have hyx:y≠x:=fun e=>hnt.2.2 y hy x (by simp) e
     rw[g6 y hyN,if_neg hyb,if_neg (fun e=>n6 y (by simp[hy]) (hf2 y e)),g7 y hyN,if_neg hyb,hl,if_neg (by omega)]
     exact⟨rfl,rfl⟩
    ·rw[g6 x hx,if_neg hxb,if_neg (fun e=>n6 x (by simp) (hf2 x e))];exact u2
    ·rw[g7 x hx,if_neg hxb,hl,if_pos ⟨by omega,by omega⟩];rfl
  ·cases l2 with
   |nil=>trivial
   |cons y t=>
    have hy:=h.lt y (by simp)
    have hyb:=hne y (by simp)
    have hy1:y∉l1:=fun e=>n6 y e (by simp)
    obtain⟨v1,v2,v3⟩:=s5
    have hnt:=List.nodup_cons.1 n5
    have hf:jo (y::t)=(y:Int)+1:=rfl
    refine⟨?_,?_,v3.congr (fun x hx=> ?_)⟩
    ·rw[g6 y hy,if_neg hyb,hf,if_pos ⟨by omega,by omega⟩,rX]
    ·rw[g7 y hy,if_neg hyb,if_neg (fun e=>hy1 (hl1 y e))];exact v2
    ·have hxN:=h.lt x (by simp[hx])
     have hxb:=hne x (by simp[hx])
     have hxy:x≠y:=fun e=>hnt.1 (by rw[←e];exact hx)
     rw[g6 x hxN,if_neg hxb,hf,if_neg (by omega),g7 x hxN,if_neg hxb,if_neg (fun e=>n6 x (hl1 x e) (by simp[hx]))]
     exact⟨rfl,rfl⟩
 ·intro x hx
  rw[g0 x hx]
  by_cases e:x=b
  ·rw[if_pos e];exact t1
  ·rw[if_neg e];exact h.tok x hx
 ·intro x hx
  rw[g0 x (h.lt x (hmem x hx)),if_neg (hne x hx)];exact h.hd x (hmem x hx)
 ·intro x hx
  rw[g0 x hx]
  by_cases e:x=b
  ·rw[if_pos e,g1,e]
   exact⟨fun h=>absurd h (by decide),fun h=>absurd rfl (hne b h)⟩
  ·rw[if_neg e,h.mrk x hx];simp[e]
theorem tQ(hm:c.May)(hz:zs.length=c.size){x:Nat}(hx:x<c.N):nth (aY c b zs) (ae c x 0)=if x=b then nth zs (ae c b 0)+64 else nth zs (ae c x 0):=by
 have hR:∀(x u r:Nat),r<24→¬ae c x u=r:=fun x u r hr=>dx hr
 rw[show nth (aY c b zs) (ae c x 0)=dY c b zs (ae c x 0) from dC _ (by rw[hz];exact ib hm hx (by omega))]
 unfold dY
 simp[hR,jQ hm]
theorem tT(hm:c.May)(hz:zs.length=c.size){x:Nat}(hx:x<c.N):nth (aT c b zs) (ae c x 0)=if x=b then nth zs (ae c b 0)-64 else nth zs (ae c x 0):=by
 have hR:∀(x u r:Nat),r<24→¬ae c x u=r:=fun x u r hr=>dx hr
 rw[show nth (aT c b zs) (ae c x 0)=dZ c b zs (ae c x 0) from dC _ (by rw[hz];exact ib hm hx (by omega))]
 unfold dZ
 simp[hR,jQ hm]
def zJ(c:Cf)(l:List Nat)(b i:Nat):Prop:=i≠7∧i≠8∧i≠9∧i≠ae c b 0∧∀x,(x=b∨x∈l)→i≠ae c x 6∧i≠ae c x 7
theorem nU(h:RingAt c zs l)(hz:zs.length=c.size){i:Nat}(hi:zJ c l b i):nth (aY c b zs) i=nth zs i:=by
 obtain⟨h7,h8,h9,h0,hx⟩:=hi
 by_cases hlt:i<zs.length
 ·rw[show nth (aY c b zs) i=dY c b zs i from dC _ hlt]
  unfold dY
  rw[if_neg h7,if_neg h8,if_neg h9,if_neg h0,if_neg (hx b (Or.inl rfl)).1,if_neg (hx b (Or.inl rfl)).2,if_neg]
  rintro⟨e1,e2⟩
  rw[h.r8] at e1 e2
  obtain⟨y,hy,he⟩:=gB l (fun e=>e1 (by rw[e];rfl))
  rw[he] at e2
  exact(hx y (Or.inr hy)).2 (by rw[e2];congr 1;omega)
 ·rw[di (by rw[mZ];omega),di (by omega)]
theorem nV{l1 l2:List Nat}(h:RingAt c zs (l1++b::l2))(hz:zs.length=c.size){i:Nat}(hi:zJ c (l1++l2) b i):nth (aT c b zs) i=nth zs i:=by
 obtain⟨h7,h8,h9,h0,hx⟩:=hi
 obtain⟨hp,hq⟩:=h.split
 by_cases hlt:i<zs.length
 ·rw[show nth (aT c b zs) i=dZ c b zs i from dC _ hlt]
  unfold dZ
  rw[if_neg h7,if_neg h8,if_neg h9,if_neg h0,if_neg (hx b (Or.inl rfl)).1,if_neg (hx b (Or.inl rfl)).2,hp,hq,if_neg,if_neg]
  ·rintro⟨e1,e2⟩
   cases l2 with
   |nil=>exact e1 rfl
   |cons y t=>
    have:jo (y::t)=(y:Int)+1:=rfl
    rw[this] at e2
    exact(hx y (Or.inr (by simp))).1 (by rw[e2];congr 1;omega)
  ·rintro⟨e1,e2⟩
   obtain⟨y,hy,he⟩:=gB l1 (fun e=>e1 (by rw[e];rfl))
   rw[he] at e2
   exact(hx y (Or.inr (by simp[hy]))).2 (by rw[e2];congr 1;omega)
 ·rw[di (by rw[ni];omega),di (by omega)]
end
structure bS (c:Cf) (zs:List Int) (l:List Nat):Prop where
 ch:aK c zs 0 l
 fr:∀b,b∈l→nth zs (ae c b 0)=0
def iN(c:Cf)(b i:Nat):Prop:=ae c b 0≤i∧i<ae c b 0+c.W
theorem oD{c:Cf}{b v:Nat}(hv:v<c.W):iN c b (ae c b v):=by unfold iN ae;omega
theorem Me{c:Cf}{b i:Nat}(h:iN c b i):∃v,v<c.W∧i=ae c b v:=⟨i-ae c b 0,by unfold iN at h;omega,by unfold iN at h;unfold ae at *;omega⟩
theorem oF{c:Cf}{b r:Nat}(hr:r<24):¬iN c b r:=by unfold iN ae;omega
theorem iq{c:Cf}{a b v:Nat}(h:a≠b)(hv:v<c.W):¬iN c b (ae c a v):=by
 intro hb
 obtain⟨u,hu,e⟩:=Me hb
 exact h (av hv hu e).1
theorem fU(c:Cf)(b:Nat):fD c b=ae c b 5:=rfl
instance (c:Cf) (b i:Nat):Decidable (iN c b i):=by unfold iN;infer_instance
def bF(c:Cf)(b:Nat)(zs zs':List Int):Prop:=zs'.length=zs.length∧∀i,¬iN c b i→nth zs' i=nth zs i
theorem bF.refl(c:Cf)(b:Nat)(zs:List Int):bF c b zs zs:=⟨rfl,fun _ _=>rfl⟩
theorem bF.trans{c:Cf}{b:Nat}{x y z:List Int}(h:bF c b x y)(k:bF c b y z):bF c b x z:=⟨k.1.trans h.1,fun i hi=>(k.2 i hi).trans (h.2 i hi)⟩
theorem bF.set{c:Cf}{b v:Nat}{zs:List Int}(hv:v<c.W)(x:Int):bF c b zs (zs.set (ae c b v) x):=
 ⟨by simp,fun i hi=>ai (fun e=>hi (by rw[←e];exact oD hv)) x⟩
theorem aK.only{c:Cf}{zs zs':List Int}{k b:Nat}{l:List Nat}(h:aK c zs k l)(hm:c.May)(hk:k<2)(hb:b∉l)(ho:bF c b zs zs'):aK c zs' k l:=by
 have hw:=hm.w
 refine h.congr (ho.2 _ (oF (by omega))) (ho.2 _ (oF (by omega))) (ho.2 _ (oF (by omega))) (fun x hx=>ho.2 _ ?_)
 rw[fU]
 exact iq (fun e=>hb (by rw[←e];exact hx)) (by omega)
theorem bS.only{c:Cf}{zs zs':List Int}{b:Nat}{l:List Nat}(h:bS c zs l)(hm:c.May)(hb:b∉l)(ho:bF c b zs zs'):bS c zs' l:=by
 have hw:=hm.w
 refine⟨h.ch.only hm (by omega) hb ho,fun x hx=> ?_⟩
 rw[ho.2 _ (iq (fun e=>hb (by rw[←e];exact hx)) (by omega))]
 exact h.fr x hx
def zk(c:Cf)(b:Nat)(zs:List Int)(i:Nat):Int:=if iN c b i then 0 else takeN c 0 b zs i
def bX(c:Cf)(b:Nat)(zs:List Int):List Int:=MJ zs.length (zk c b zs)
def aP(c:Cf)(b:Nat)(zs:List Int):List Int:=nQ c 0 b (zs.set (ae c b 0) 0)
theorem dX(c:Cf)(b:Nat)(zs:List Int):(bX c b zs).length=zs.length:=gP _ _
theorem sD(c:Cf)(b:Nat)(zs:List Int):(aP c b zs).length=zs.length:=by unfold aP;rw[qQ];simp
def nD(c:Cf)(zs:List Int):Prop:=bS c zs (List.range c.N)∧∀i,¬i<3→(∀b,b<c.N→i≠ae c b 5)→nth zs i=0
section
variable {c:Cf} {zs:List Int} {b:Nat} {l:List Nat}
theorem mD(hz:zs.length=c.size){i:Nat}(hi:i<c.size):nth (bX c b zs) i=if iN c b i then 0 else nth (dU c 0 b zs) i:=by
 rw[show nth (bX c b zs) i=zk c b zs i from dC _ (by omega),show nth (dU c 0 b zs) i=takeN c 0 b zs i from dC _ (by omega)]
 rfl
theorem kU(hz:zs.length=c.size):bF c b (dU c 0 b zs) (bX c b zs):=by
 refine⟨by rw[dX,dM],fun i hi=> ?_⟩
 by_cases h:i<c.size
 ·rw[mD hz h,if_neg hi]
 ·rw[di (by rw[dX];omega),di (by rw[dM];omega)]
theorem bS.take(h:bS c zs (b::l))(hm:c.May)(hz:zs.length=c.size):bS c (bX c b zs) l∧∀v,v<c.W→nth (bX c b zs) (ae c b v)=0:=by
 have hb:=h.ch.lt b (by simp)
 have hn:=(List.nodup_cons.1 h.ch.nd).1
 have hw:=hm.w
 obtain⟨h1,_⟩:=h.ch.take hm hz (by omega)
 refine⟨⟨h1.only hm (by omega) hn (kU hz),fun x hx=> ?_⟩,fun v hv=> ?_⟩
 ·have hxb:x≠b:=fun e=>hn (by rw[←e];exact hx)
  have hxN:=h.ch.lt x (by simp[hx])
  rw[(kU hz).2 _ (iq hxb (by omega))]
  rw[show nth (dU c 0 b zs) (ae c x 0)=takeN c 0 b zs (ae c x 0) from dC _ (by rw[hz];exact eG hxN (by omega))]
  unfold takeN
  rw[if_neg (dx (by omega)),if_neg (dx (by omega)),if_neg (dx (by omega)),if_neg (by rw[fU,jQ hm (by omega) (by omega)];omega)]
  exact h.fr x (by simp[hx])
 ·rw[mD hz (eG hb hv),if_pos (oD hv)]
theorem Ap(hm:c.May)(hz:zs.length=c.size){i:Nat}(hi:¬iN c b i)(h3:¬i<3):nth (bX c b zs) i=nth zs i:=by
 rw[(kU hz).2 i hi]
 by_cases h:i<c.size
 ·rw[show nth (dU c 0 b zs) i=takeN c 0 b zs i from dC _ (by omega)]
  unfold takeN
  have hw:=hm.w
  rw[if_neg (by omega),if_neg (by omega),if_neg (by omega),if_neg (fun e=>hi (by rw[e,fU];exact oD (by omega)))]
 ·rw[di (by rw[dM];omega),di (by omega)]
theorem bS.give(h:bS c zs l)(hm:c.May)(hz:zs.length=c.size)(hb:b<c.N)(hn:b∉l):bS c (aP c b zs) (b::l)∧nth (aP c b zs) (ae c b 0)=0:=by
 have hw:=hm.w
 have h1:=h.only hm hn (bF.set (v:=0) (by omega) 0)
 have hz1:(zs.set (ae c b 0) 0).length=c.size:=by simp[hz]
 have g:∀x,x<c.N→nth (aP c b zs) (ae c x 0)=nth (zs.set (ae c b 0) 0) (ae c x 0):=fun x hx=>by
  unfold aP
  rw[show nth (nQ c 0 b (zs.set (ae c b 0) 0)) (ae c x 0)=mY c 0 b (zs.set (ae c b 0) 0) (ae c x 0) from dC _ (by rw[hz1];exact eG hx (by omega))]
  unfold mY
  rw[if_neg (dx (by omega)),if_neg (dx (by omega)),if_neg (dx (by omega)),if_neg (by rw[fU,jQ hm (by omega) (by omega)];omega)]
 have hb0:nth (aP c b zs) (ae c b 0)=0:=by rw[g b hb,aN (by rw[hz];exact eG hb (by omega))]
 refine⟨⟨h1.ch.push hm hz1 (by omega) hb hn,fun x hx=> ?_⟩,hb0⟩
 rcases List.mem_cons.1 hx with rfl|hx
 ·exact hb0
 ·rw[g x (h.ch.lt x hx)];exact h1.fr x hx
theorem mq(hm:c.May)(hz:zs.length=c.size){i:Nat}(hi:i≠ae c b 0)(h5:i≠ae c b 5)(h3:¬i<3):nth (aP c b zs) i=nth zs i:=by
 unfold aP
 by_cases h:i<c.size
 ·rw[show nth (nQ c 0 b (zs.set (ae c b 0) 0)) i=mY c 0 b (zs.set (ae c b 0) 0) i from dC _ (by simp;omega)]
  unfold mY
  rw[if_neg (by omega),if_neg (by omega),if_neg (by omega),if_neg (show ¬i=fD c b from h5),ai (fun e=>hi e.symm)]
 ·rw[di (by rw[qQ];simp;omega),di (by omega)]
end
def dR(o:Option Nat):Nat:=match o with|some _=>1|none=>0
theorem St.Ld(s:St)(o:Option Nat):s.ask o=⟨s.zs,s.m+dR o⟩:=by cases o<;>rfl
theorem uE(o:Option Nat):dR o≤1:=by cases o<;>simp[dR]
def mM(c:Cf)(zs:List Int)(b:Int):Int:=(⟨zs,0⟩:St).at? (aB c b 0)
theorem wK{c:Cf}{zs:List Int}{b:Int}(h:¬(0≤b∧b<(c.N:Int))):mM c zs b=0:=by
 unfold mM aB bel
 rw[decide_eq_false h];rfl
theorem oN{c:Cf}{zs:List Int}{b:Nat}(hm:c.May)(h:b<c.N):mM c zs (b:Int)=nth zs (ae c b 0):=by
 unfold mM
 have:=fE (c:=c) (b:=b) (v:=0) h (by have:=hm.w;omega)
 rw[show((0:Nat):Int)=0 from rfl] at this
 rw[this];rfl
theorem uU(p:Pl)(c:Cf)(s:St)(b t:Int)(w:World)(hG:G w p c s)(ht:mM c s.zs b=t):
  Calls Tryz.prog 51 #[.pointer (some ⟨p.a,0,none⟩),.int .i64 b,.int .i64 0] w (GP w p c ⟨s.zs,s.m+dR (aB c b 0)⟩ (.int .u32 t)):=by
 subst ht
 have h:=xn p c s b 0 w hG
 rw[s.Ld] at h
 exact h
theorem AC{w:World}{p:Pl}{c:Cf}{s:St}(hG:G w p c s)(b:Int):0≤mM c s.zs b∧mM c s.zs b≤4294967295:=St.at?_wf (s:=⟨s.zs,0⟩) hG.wf _
theorem GR(b v:Int)(w:World):Calls Tryz.prog 114 #[.pointer none,.int .i64 b,.int .i64 v] w fun e w'=>e=.returned (.tuple #[.int .i64 0,.bool false])∧w=w':=by
 go_enter Tryz.func114,Tryz.ntmps114
 go_wp2
 go_ret2
 exact⟨rfl,rfl⟩
theorem Oc(b v:Int)(w:World):Calls Tryz.prog 51 #[.pointer none,.int .i64 b,.int .i64 v] w fun e w'=>e=.returned (.int .u32 0)∧w=w':=by
 go_enter Tryz.func51,Tryz.ntmps51
 go_wp2_with fail
 refine(GR b v _).mono ?_
 rintro e w1 ⟨rfl,rfl⟩
 go_wp2_with fail
 go_ret
 exact⟨rfl,rfl⟩
end Go.Proofs.YtofhdfjkhfkhiaaGreat.Pk
