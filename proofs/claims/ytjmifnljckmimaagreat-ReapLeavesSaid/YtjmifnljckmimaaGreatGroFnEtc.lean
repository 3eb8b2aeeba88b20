/-
  Texts laid together: GroFn, ChainMath, Acts, RingMath, PoolMath, ObjMath.
-/
import Derived.Test.YtjmifnljckmimaaGreatStoFnEtc
import Derived.Test.YtjmifnljckmimaaGreatBaseEtc
import Derived.Test.YtjmifnljckmimaaGreatPlanFnEtc
import Derived.BigQuiet
import Derived.IntWalk
import Derived.LoopTactic
namespace Go.Proofs.YtjmifnljckmimaaGreat.Pk
open Lib (hid)
open Go.RowKit
set_option linter.unusedVariables false
set_option linter.unusedSimpArgs false
theorem lV{a b:Int}(h:a≠b):(a==b)=false:=by rw[beq_eq_false_iff_ne];exact h
structure Cf where
 N:Nat
 W:Nat
 R:Nat
 K:Nat
def Cf.May(c:Cf):Prop:=Pk.May (c.N:Int) (c.W:Int) (c.R:Int) (c.K:Int)
def Cf.size(c:Cf):Nat:=24+c.R+c.N*c.W
def Cf.val(c:Cf):Value:=.agg #[.int .i64 (c.N:Int),.int .i64 (c.W:Int),.int .i64 (c.R:Int),.int .i64 (c.K:Int)]
theorem Cf.May.nw{c:Cf}(h:c.May):16≤c.N*c.W∧c.N*c.W≤4194304:=by
 obtain⟨h1,h2⟩:=GN h
 have e:((c.N*c.W:Nat):Int)=(c.N:Int)*(c.W:Int):=Int.natCast_mul _ _
 omega
theorem Cf.May.n{c:Cf}(h:c.May):1≤c.N∧c.N≤1048576:=by have:=h.n0;have:=h.n1;omega
theorem Cf.May.w{c:Cf}(h:c.May):16≤c.W∧c.W≤256:=by have:=h.w0;have:=h.w1;omega
theorem Cf.May.r{c:Cf}(h:c.May):1≤c.R∧c.R≤4096:=by have:=h.r0;have:=h.r1;omega
theorem Cf.May.k{c:Cf}(h:c.May):1≤c.K∧c.K≤65536:=by have:=h.k0;have:=h.k1;omega
theorem Cf.May.size{c:Cf}(h:c.May):41≤c.size∧c.size≤4198424:=by
 have:=h.nw;have:=h.r;unfold Cf.size;omega
structure Pl where
 a:Nat
 s:Nat
 g:Nat
structure St where
 zs:List Int
 m:Nat
def Gl(zs:List Int):Prop:=∀k,0≤nth zs k∧nth zs k≤4294967295
theorem aN{zs:List Int}{k:Nat}(hk:k<zs.length)(v:Int):nth (zs.set k v) k=v:=by unfold nth;simp[List.getD,hk]
theorem ai{zs:List Int}{k j:Nat}(h:k≠j)(v:Int):nth (zs.set k v) j=nth zs j:=by unfold nth;simp[List.getD,h]
theorem cO{zs:List Int}{k:Nat}(hk:zs.length≤k):nth zs k=0:=by unfold nth;simp[List.getD,hk]
theorem qL(q k:Nat):nth (List.replicate q 0) k=0:=by
 unfold nth
 rw[List.getD_eq_getElem?_getD,List.getElem?_replicate]
 split<;>rfl
theorem Gl.set{zs:List Int}(h:Gl zs)(k:Nat){v:Int}(h0:0≤v)(h1:v≤4294967295):Gl (zs.set k v):=by
 intro j
 by_cases e:k=j
 ·subst e
  by_cases hk:k<zs.length
  ·rw[aN hk];exact⟨h0,h1⟩
  ·rw[cO (by simp;omega)];omega
 ·rw[ai e];exact h j
theorem Gl.rep(q:Nat):Gl (List.replicate q 0):=fun k=>by rw[qL];omega
structure kT (tg ts e:TypeId) (w:World) (p:Pl) (c:Cf) (s:St):Prop where
 head:Blk w p.a #[.pointer (some ⟨p.s,0,none⟩),.int .i64 (c.N:Int),.int .i64 (c.W:Int),.int .i64 (c.R:Int),.int .i64 (c.K:Int)] tg
 st:oW w ts e p.s p.g s.zs (u64m s.m)
 len:s.zs.length=c.size
 as_:p.a≠p.s
 ag:p.a≠p.g
 may:c.May
 wf:Gl s.zs
def inG(p:Pl):Nat→Prop:=GD p.s p.g
def jf(p:Pl):Nat→Prop:=fun k=>k=p.a∨GD p.s p.g k
theorem kT.touch{tg ts e:TypeId}{X:Nat→Prop}{w w':World}{p:Pl}{c:Cf}{s:St}(h:kT tg ts e w p c s)(k:Touch X w w')(hX:∀b,jf p b→¬X b):kT tg ts e w' p c s:=
 ⟨h.head.touch k (hX _ (.inl rfl)),h.st.touch k (hX _ (.inr (.inl rfl))) (hX _ (.inr (.inr rfl))),h.len,h.as_,h.ag,h.may,h.wf⟩
theorem kT.later{tg ts e:TypeId}{w w':World}{p:Pl}{c:Cf}{s:St}(h:kT tg ts e w p c s)(k:Below w.heap.size w w'):kT tg ts e w' p c s:=
 ⟨h.head.later k,h.st.later k,h.len,h.as_,h.ag,h.may,h.wf⟩
theorem kT.drew{tg ts e:TypeId}{w:World}{p:Pl}{c:Cf}{s:St}(h:kT tg ts e w p c s):kT tg ts e w.drew p c s:=⟨h.head.drew,h.st.drew,h.len,h.as_,h.ag,h.may,h.wf⟩
theorem kT.alloc{tg ts e:TypeId}{w:World}{p:Pl}{c:Cf}{s:St}(h:kT tg ts e w p c s)(o:Obj):kT tg ts e (w.alloc o) p c s:=⟨h.head.alloc o,h.st.alloc o,h.len,h.as_,h.ag,h.may,h.wf⟩
theorem kT.drw{tg ts e:TypeId}{w w':World}{p:Pl}{c:Cf}{s:St}(h:kT tg ts e w p c s)(k:Drw w w'):kT tg ts e w' p c s:=h.later k.new
theorem kT.ptr{tg ts e:TypeId}{w:World}{p:Pl}{c:Cf}{s:St}(h:kT tg ts e w p c s):w.cell? ⟨p.a,0,none⟩=some (.pointer (some ⟨p.s,0,none⟩)):=h.head.cell 0 rfl
theorem kT.cN{tg ts e:TypeId}{w:World}{p:Pl}{c:Cf}{s:St}(h:kT tg ts e w p c s):w.cell? ⟨p.a,1,none⟩=some (.int .i64 (c.N:Int)):=h.head.cell 1 rfl
theorem kT.cW{tg ts e:TypeId}{w:World}{p:Pl}{c:Cf}{s:St}(h:kT tg ts e w p c s):w.cell? ⟨p.a,2,none⟩=some (.int .i64 (c.W:Int)):=h.head.cell 2 rfl
theorem kT.cR{tg ts e:TypeId}{w:World}{p:Pl}{c:Cf}{s:St}(h:kT tg ts e w p c s):w.cell? ⟨p.a,3,none⟩=some (.int .i64 (c.R:Int)):=h.head.cell 3 rfl
theorem kT.cK{tg ts e:TypeId}{w:World}{p:Pl}{c:Cf}{s:St}(h:kT tg ts e w p c s):w.cell? ⟨p.a,4,none⟩=some (.int .i64 (c.K:Int)):=h.head.cell 4 rfl
theorem kT.step{tg ts e:TypeId}{w w':World}{p:Pl}{c:Cf}{s s':St}(h:kT tg ts e w p c s)(hS:oW w' ts e p.s p.g s'.zs (u64m s'.m))(k:Touch (inG p) w w')(hl:s'.zs.length=s.zs.length)(hw:Gl s'.zs):kT tg ts e w' p c s':=
 ⟨h.head.touch k (by have:=h.as_;have:=h.ag;unfold inG GD;omega),hS,hl.trans h.len,h.as_,h.ag,h.may,hw⟩
def St.got(s:St):St:=⟨s.zs,s.m+1⟩
def St.set(s:St)(k:Nat)(v:Int):St:=⟨s.zs.set k v,s.m+1⟩
theorem St.uM(s:St)(k:Nat)(v:Int):(s.set k v).zs.length=s.zs.length:=by simp[St.set]
def jG(n:Int)(b:Nat):Bool:=decide (0≤n∧n<(b:Int))
theorem kE{n:Int}{b:Nat}(h:jG n b=true):∃k:Nat,n=(k:Int)∧k<b:=by
 unfold jG at h
 have:=of_decide_eq_true h
 exact⟨n.toNat,by omega,by omega⟩
theorem iX{k b:Nat}(h:k<b):jG (k:Int) b=true:=by unfold jG;exact decide_eq_true (by omega)
theorem OX{n:Int}{b:Nat}(h:jG n b=false):n<0∨(b:Int)≤n:=by
 unfold jG at h
 have:=of_decide_eq_false h
 omega
def qb(r:Int):Option Nat:=if jG r 24 then some r.toNat else none
def aB(c:Cf)(b w:Int):Option Nat:=if jG b c.N&&jG w c.W then some (24+c.R+b.toNat*c.W+w.toNat) else none
theorem lN{c:Cf}{b w:Nat}(hb:b<c.N)(hw:w<c.W):24+c.R+b*c.W+w<c.size:=by
 have h:(b+1)*c.W≤c.N*c.W:=Nat.mul_le_mul_right _ hb
 rw[Nat.add_mul,Nat.one_mul] at h
 unfold Cf.size
 omega
theorem GV{c:Cf}{r:Int}{k:Nat}(h:qb r=some k):k<c.size:=by
 unfold qb at h
 split at h
 ·rename_i hb
  obtain⟨j,rfl,hj⟩:=kE hb
  cases h
  unfold Cf.size
  omega
 ·cases h
theorem wZ{c:Cf}{b w:Int}{k:Nat}(h:aB c b w=some k):k<c.size:=by
 unfold aB at h
 split at h
 ·rename_i hb
  rw[Bool.and_eq_true] at hb
  obtain⟨j,rfl,hj⟩:=kE hb.1
  obtain⟨i,rfl,hi⟩:=kE hb.2
  cases h
  exact lN hj hi
 ·cases h
def St.at?(s:St)(k:Option Nat):Int:=match k with|some k=>nth s.zs k|none=>0
def St.ask(s:St)(k:Option Nat):St:=match k with|some _=>s.got|none=>s
def St.put(s:St)(k:Option Nat)(v:Int):St:=match k with|some k=>s.set k v|none=>s
def qx(v:Int):Bool:=decide (0≤v∧v≤4294967295)
def St.Dk(s:St)(k:Option Nat)(v:Int):St:=if qx v then s.put k v else s
def Lr(k:Option Nat)(v:Int):Bool:=k.isSome&&qx v
theorem St.at?_wf{s:St}(h:Gl s.zs)(k:Option Nat):0≤s.at? k∧s.at? k≤4294967295:=by
 cases k with
 |none=>show(0:Int)≤0∧(0:Int)≤4294967295;decide
 |some k=>exact h k
theorem Iu{v:Int}(h:qx v=true):0≤v∧v≤4294967295:=of_decide_eq_true h
theorem Ce{v:Int}(h0:0≤v)(h1:v≤4294967295):qx v=true:=decide_eq_true ⟨h0,h1⟩
def QC(tg ts e:TypeId)(w:World)(p:Pl)(c:Cf)(s:St)(v:Value)(en:Ending)(w':World):Prop:=
 en=.returned v∧kT tg ts e w' p c s∧Touch (inG p) w w'
abbrev G:=kT 82 135 119
abbrev GP:=QC 82 135 119
theorem yx(n b:Int)(w:World):Calls Tryz.prog 185 #[.int .i64 n,.int .i64 b] w fun e w'=>e=.returned (.bool (decide (0≤n∧n<b)))∧w=w':=by
 by_cases h:0≤n
 ·go_enter Tryz.func185,Tryz.ntmps185
  go_wp2
  go_ret
  exact⟨aH (by simp[h]),rfl⟩
 ·have h':n<0:=by omega
  go_enter Tryz.func185,Tryz.ntmps185
  go_wp2
  go_ret
  exact⟨aH (by simp;omega),rfl⟩
theorem jR(n:Int)(b:Nat)(w:World):Calls Tryz.prog 185 #[.int .i64 n,.int .i64 (b:Int)] w fun e w'=>e=.returned (.bool (jG n b))∧w=w':=yx n b w
theorem uV(n:Int)(w:World):Calls Tryz.prog 185 #[.int .i64 n,.int .i64 24] w fun e w'=>e=.returned (.bool (jG n 24))∧w=w':=yx n 24 w
theorem vB(n:Int)(w:World):Calls Tryz.prog 142 #[.int .i64 n] w fun e w'=>e=.returned (.bool (qx n))∧w=w':=by
 by_cases h:0≤n
 ·go_enter Tryz.func142,Tryz.ntmps142
  go_wp2
  go_ret
  exact⟨aH (by unfold qx;simp[h]),rfl⟩
 ·have h':n<0:=by omega
  go_enter Tryz.func142,Tryz.ntmps142
  go_wp2
  go_ret
  exact⟨aH (by unfold qx;simp;omega),rfl⟩
theorem MP{P:Program}{f:FuncId}{args:Array Value}{w:World}{a b:Bool}(h:Calls P f args w fun e w'=>e=.returned (.bool a)∧w=w')(hab:a=b):
  Calls P f args w fun e w'=>e=.returned (.bool b)∧w=w':=hab▸h
theorem Ii{P:Program}{f:FuncId}{args:Array Value}{w:World}{a b:Value}{Q:World→Prop}(h:Calls P f args w fun e w'=>e=.returned a∧Q w')(hab:a=b):
  Calls P f args w fun e w'=>e=.returned b∧Q w':=hab▸h
def OD(k:Option Nat):Value:=match k with|some k=>.tuple #[.int .i64 (k:Int),.bool true]|none=>.tuple #[.int .i64 0,.bool false]
theorem jP{o:Option Nat}{k:Nat}(h:o=some k):OD o=.tuple #[.int .i64 (k:Int),.bool true]:=by rw[h];rfl
theorem kV{o:Option Nat}(h:o=none):OD o=.tuple #[.int .i64 0,.bool false]:=by rw[h];rfl
theorem lG(p:Pl)(c:Cf)(s:St)(r:Int)(w:World)(hG:G w p c s):
  Calls Tryz.prog 141 #[.pointer (some ⟨p.a,0,none⟩),.int .i64 r] w fun e w'=>e=.returned (OD (qb r))∧w=w':=by
 clear hG
 by_cases h:jG r 24=true
 ·obtain⟨k,rfl,hk⟩:=kE h
  have e1:qb (k:Int)=some k:=by unfold qb;rw[if_pos h];simp
  rw[e1]
  clear e1
  go_enter Tryz.func141,Tryz.ntmps141
  go_wp2_with fail
  refine(MP (uV _ _) h).mono ?_
  rintro e w1 ⟨rfl,rfl⟩
  go_wp2_with fail
  go_ret2
  exact⟨rfl,rfl⟩
 ·have h':jG r 24=false:=by simpa using h
  have e1:qb r=none:=by unfold qb;rw[if_neg h]
  rw[e1]
  clear e1
  go_enter Tryz.func141,Tryz.ntmps141
  go_wp2_with fail
  refine(MP (uV _ _) h').mono ?_
  rintro e w1 ⟨rfl,rfl⟩
  go_wp2_with fail
  go_ret2
  exact⟨rfl,rfl⟩
theorem Gh(p:Pl)(c:Cf)(s:St)(b v:Nat)(w:World)(hG:G w p c s)(hb:b<c.N)(hv:v<c.W):
  Calls Tryz.prog 149 #[.pointer (some ⟨p.a,0,none⟩),.int .i64 (b:Int),.int .i64 (v:Int)] w fun e w'=>e=.returned (OD (some (24+c.R+b*c.W+v)))∧Drw w w':=by
 have cN:=hG.cN
 have cW:=hG.cW
 have cR:=hG.cR
 have hR:=hG.may.r
 have hW:=hG.may.w
 have hN:=hG.may.n
 have hsz:=hG.may.size
 have hlt:=lN hb hv
 have e0:((b*c.W:Nat):Int)=(b:Int)*(c.W:Int):=Int.natCast_mul _ _
 have hbw:0≤(b:Int)*(c.W:Int)∧(b:Int)*(c.W:Int)≤4198424:=by omega
 clear hG
 have w1:IntKind.i64.wrap (24+(c.R:Int))=24+(c.R:Int):=IntWalk.i64_in _ (by omega)
 have w2:IntKind.i64.wrap ((b:Int)*(c.W:Int))=(b:Int)*(c.W:Int):=by
  generalize (b:Int)*(c.W:Int)=x at hbw ⊢
  exact IntWalk.i64_in _ (by omega)
 have w3:IntKind.i64.wrap (24+(c.R:Int)+(b:Int)*(c.W:Int))=24+(c.R:Int)+(b:Int)*(c.W:Int):=by
  generalize (b:Int)*(c.W:Int)=x at hbw ⊢
  exact IntWalk.i64_in _ (by omega)
 have w4:IntKind.i64.wrap (24+(c.R:Int)+(b:Int)*(c.W:Int)+(v:Int))=24+(c.R:Int)+(b:Int)*(c.W:Int)+(v:Int):=by
  generalize (b:Int)*(c.W:Int)=x at hbw ⊢
  exact IntWalk.i64_in _ (by omega)
 have hB:=hid (iX hb)
 have hV:=hid (iX hv)
 have E0:=hid e0
 clear hb hv e0 hlt hsz
 go_enter Tryz.func149,Tryz.ntmps149
 go_wp2_with fail
 refine(MP (jR _ _ _) hB.out).mono ?_
 rintro e w1 ⟨rfl,rfl⟩
 go_wp2_with fail
 refine(MP (jR _ _ _) hV.out).mono ?_
 rintro e w1 ⟨rfl,rfl⟩
 go_wp2_with fail
 go_quiet (fail)
 go_wp2_with fail
 go_ret2
 exact⟨by have:=E0.out;simp[OD],Drw.refl _ |>.step _⟩
theorem Gf(p:Pl)(c:Cf)(s:St)(b v:Int)(w:World)(hG:G w p c s)(hb:jG b c.N=false):
  Calls Tryz.prog 149 #[.pointer (some ⟨p.a,0,none⟩),.int .i64 b,.int .i64 v] w fun e w'=>e=.returned (OD none)∧Drw w w':=by
 have cN:=hG.cN
 have cW:=hG.cW
 have hB:=hid hb
 clear hG hb
 go_enter Tryz.func149,Tryz.ntmps149
 go_wp2_with fail
 refine(MP (jR _ _ _) hB.out).mono ?_
 rintro e w1 ⟨rfl,rfl⟩
 go_wp2_with fail
 go_ret2
 exact⟨rfl,Drw.refl _⟩
theorem Gg(p:Pl)(c:Cf)(s:St)(b v:Int)(w:World)(hG:G w p c s)(hA0:jG b c.N=true)(hb:jG v c.W=false):
  Calls Tryz.prog 149 #[.pointer (some ⟨p.a,0,none⟩),.int .i64 b,.int .i64 v] w fun e w'=>e=.returned (OD none)∧Drw w w':=by
 have cN:=hG.cN
 have cW:=hG.cW
 have hB:=hid hb
 have hA:=hid hA0
 clear hA0
 clear hG hb
 go_enter Tryz.func149,Tryz.ntmps149
 go_wp2_with fail
 refine(MP (jR _ _ _) hA.out).mono ?_
 rintro e w1 ⟨rfl,rfl⟩
 go_wp2_with fail
 refine(MP (jR _ _ _) hB.out).mono ?_
 rintro e w1 ⟨rfl,rfl⟩
 go_wp2_with fail
 go_ret2
 exact⟨rfl,Drw.refl _⟩
theorem gu(p:Pl)(c:Cf)(s:St)(b v:Int)(w:World)(hG:G w p c s):
  Calls Tryz.prog 149 #[.pointer (some ⟨p.a,0,none⟩),.int .i64 b,.int .i64 v] w fun e w'=>e=.returned (OD (aB c b v))∧Drw w w':=by
 by_cases h1:jG b c.N=true
 ·by_cases h2:jG v c.W=true
  ·obtain⟨i,rfl,hi⟩:=kE h1
   obtain⟨j,rfl,hj⟩:=kE h2
   have e:aB c (i:Int) (j:Int)=some (24+c.R+i*c.W+j):=by unfold aB;rw[h1,h2];simp
   rw[e]
   exact Gh p c s i j w hG hi hj
  ·have e:aB c b v=none:=by unfold aB;simp[h2]
   rw[e]
   exact Gg p c s b v w hG h1 (by simpa using h2)
 ·have e:aB c b v=none:=by unfold aB;simp[h1]
  rw[e]
  exact Gf p c s b v w hG (by simpa using h1)
theorem NS(p:Pl)(c:Cf)(s:St)(r:Int)(w:World)(hG:G w p c s):
  Calls Tryz.prog 87 #[.pointer (some ⟨p.a,0,none⟩),.int .i64 r] w (GP w p c (s.ask (qb r)) (.int .i64 (s.at? (qb r)))):=by
 have HG:=hid hG
 clear hG
 cases hk:qb r with
 |none=>
  have HK:=hid hk
  clear hk
  go_enter Tryz.func87,Tryz.ntmps87
  go_wp2_with fail
  refine(Ii (lG p c s r _ HG.out) (kV HK.out)).mono ?_
  rintro e w1 ⟨rfl,rfl⟩
  have HD:=hid (Drw.refl w)
  have HG1:=HG
  have cp:=HG1.out.ptr
  go_wp2_with fail
  go_ret
  exact⟨rfl,HG1.out,Touch.of_below (HD.out.new)⟩
 |some k=>
  have HK:=hid hk
  have HL:=hid (show k<s.zs.length by rw[HG.out.len];exact GV hk)
  clear hk
  have hwr:IntKind.i64.wrap (nth s.zs k)=nth s.zs k:=by have:=HG.out.wf k;exact IntWalk.i64_in _ (by omega)
  go_enter Tryz.func87,Tryz.ntmps87
  go_wp2_with fail
  refine(Ii (lG p c s r _ HG.out) (jP HK.out)).mono ?_
  rintro e w1 ⟨rfl,rfl⟩
  have HD:=hid (Drw.refl w)
  have HG1:=HG
  have cp:=HG1.out.ptr
  go_wp2_with fail
  refine(CO p.s p.g s.zs s.m k _ HG1.out.st HL.out).mono ?_
  rintro e w2 ⟨rfl,hS,hT⟩
  have HS:=hid hS
  have HT:=hid hT
  clear hS hT
  go_wp2_with fail
  go_ret
  exact⟨rfl,HG1.out.step (s':=s.got) HS.out HT.out rfl HG1.out.wf,(Touch.of_below (HD.out.new)).trans HT.out⟩
theorem FH(p:Pl)(c:Cf)(s:St)(r:Int)(x:Int)(w:World)(hG:G w p c s):
  Calls Tryz.prog 78 #[.pointer (some ⟨p.a,0,none⟩),.int .i64 r,.int .i64 x] w (GP w p c (s.Dk (qb r) x) (.bool (Lr (qb r) x))):=by
 have HG:=hid hG
 clear hG
 cases hk:qb r with
 |none=>
  have HK:=hid hk
  have E:Hid (s.Dk none x=s):=hid (by unfold St.Dk;split<;>rfl)
  clear hk
  go_enter Tryz.func78,Tryz.ntmps78
  go_wp2_with fail
  refine(Ii (lG p c s r _ HG.out) (kV HK.out)).mono ?_
  rintro e w1 ⟨rfl,rfl⟩
  have HD:=hid (Drw.refl w)
  have HG1:=HG
  have cp:=HG1.out.ptr
  go_wp2_with fail
  go_ret
  exact⟨rfl,by rw[E.out];exact HG1.out,Touch.of_below (HD.out.new)⟩
 |some k=>
  have HK:=hid hk
  have HL:=hid (show k<s.zs.length by rw[HG.out.len];exact GV hk)
  clear hk
  by_cases hf:qx x=true
  ·have hr:=Iu hf
   have hwr:IntKind.u32.wrap x=x:=IntWalk.u32_in _ (by omega)
   have HF:=hid hf
   clear hf
   go_enter Tryz.func78,Tryz.ntmps78
   go_wp2_with fail
   refine(Ii (lG p c s r _ HG.out) (jP HK.out)).mono ?_
   rintro e w1 ⟨rfl,rfl⟩
   have HD:=hid (Drw.refl w)
   have HG1:=HG
   have cp:=HG1.out.ptr
   go_wp2_with fail
   refine(MP (vB _ _) HF.out).mono ?_
   rintro e w1 ⟨rfl,rfl⟩
   go_wp2_with fail
   refine(vQ p.s p.g s.zs s.m x k _ HG1.out.st HL.out).mono ?_
   rintro e w2 ⟨rfl,hS,hT⟩
   have HS:=hid hS
   have HT:=hid hT
   clear hS hT
   go_wp2_with fail
   go_ret
   refine⟨by unfold Lr;rw[HF.out];rfl,?_,(Touch.of_below (HD.out.new)).trans HT.out⟩
   rw[show s.Dk (some k) x=s.set k x by unfold St.Dk;rw[if_pos HF.out];rfl]
   exact HG1.out.step (s':=s.set k x) HS.out HT.out (s.uM k x) (HG1.out.wf.set k hr.1 hr.2)
  ·have HF:=hid (show qx x=false by simpa using hf)
   clear hf
   go_enter Tryz.func78,Tryz.ntmps78
   go_wp2_with fail
   refine(Ii (lG p c s r _ HG.out) (jP HK.out)).mono ?_
   rintro e w1 ⟨rfl,rfl⟩
   have HD:=hid (Drw.refl w)
   have HG1:=HG
   have cp:=HG1.out.ptr
   go_wp2_with fail
   refine(MP (vB _ _) HF.out).mono ?_
   rintro e w1 ⟨rfl,rfl⟩
   go_wp2_with fail
   go_ret
   exact⟨by unfold Lr;rw[HF.out];rfl,by unfold St.Dk;rw[if_neg (by rw[HF.out];simp)];exact HG1.out,Touch.of_below (HD.out.new)⟩
theorem xc(p:Pl)(c:Cf)(s:St)(b v:Int)(w:World)(hG:G w p c s):
  Calls Tryz.prog 85 #[.pointer (some ⟨p.a,0,none⟩),.int .i64 b,.int .i64 v] w (GP w p c (s.ask (aB c b v)) (.int .u32 (s.at? (aB c b v)))):=by
 have HG:=hid hG
 clear hG
 cases hk:aB c b v with
 |none=>
  have HK:=hid hk
  clear hk
  go_enter Tryz.func85,Tryz.ntmps85
  go_wp2_with fail
  refine(Ii (gu p c s b v _ HG.out) (kV HK.out)).mono ?_
  rintro e w1 ⟨rfl,hd⟩
  have HD:=hid hd
  have HG1:=hid (HG.out.drw hd)
  have cp:=HG1.out.ptr
  clear hd
  go_wp2_with fail
  go_ret
  exact⟨rfl,HG1.out,Touch.of_below (HD.out.new)⟩
 |some k=>
  have HK:=hid hk
  have HL:=hid (show k<s.zs.length by rw[HG.out.len];exact wZ hk)
  clear hk
  go_enter Tryz.func85,Tryz.ntmps85
  go_wp2_with fail
  refine(Ii (gu p c s b v _ HG.out) (jP HK.out)).mono ?_
  rintro e w1 ⟨rfl,hd⟩
  have HD:=hid hd
  have HG1:=hid (HG.out.drw hd)
  have cp:=HG1.out.ptr
  clear hd
  go_wp2_with fail
  refine(CO p.s p.g s.zs s.m k _ HG1.out.st HL.out).mono ?_
  rintro e w2 ⟨rfl,hS,hT⟩
  have HS:=hid hS
  have HT:=hid hT
  clear hS hT
  go_wp2_with fail
  go_ret
  exact⟨rfl,HG1.out.step (s':=s.got) HS.out HT.out rfl HG1.out.wf,(Touch.of_below (HD.out.new)).trans HT.out⟩
theorem tY(p:Pl)(c:Cf)(s:St)(b v:Int)(w:World)(hG:G w p c s):
  Calls Tryz.prog 81 #[.pointer (some ⟨p.a,0,none⟩),.int .i64 b,.int .i64 v] w fun e w'=>e=.returned (.int .u32 (s.at? (aB c b v)))∧Drw w w':=by
 have HG:=hid hG
 clear hG
 cases hk:aB c b v with
 |none=>
  have HK:=hid hk
  clear hk
  go_enter Tryz.func81,Tryz.ntmps81
  go_wp2_with fail
  refine(Ii (gu p c s b v _ HG.out) (kV HK.out)).mono ?_
  rintro e w1 ⟨rfl,hd⟩
  have HD:=hid hd
  have HG1:=hid (HG.out.drw hd)
  have cp:=HG1.out.ptr
  clear hd
  go_wp2_with fail
  go_ret
  exact⟨rfl,HD.out⟩
 |some k=>
  have HK:=hid hk
  have HL:=hid (show k<s.zs.length by rw[HG.out.len];exact wZ hk)
  clear hk
  go_enter Tryz.func81,Tryz.ntmps81
  go_wp2_with fail
  refine(Ii (gu p c s b v _ HG.out) (jP HK.out)).mono ?_
  rintro e w1 ⟨rfl,hd⟩
  have HD:=hid hd
  have HG1:=hid (HG.out.drw hd)
  have cp:=HG1.out.ptr
  clear hd
  go_wp2_with fail
  refine(Ll p.s p.g s.zs _ k _ HG1.out.st HL.out).mono ?_
  rintro e w2 ⟨rfl,rfl⟩
  go_wp2_with fail
  go_ret
  exact⟨rfl,HD.out⟩
theorem DC(p:Pl)(c:Cf)(s:St)(b v:Int)(x:Int)(w:World)(hG:G w p c s)(h0:0≤x)(h1:x≤4294967295):
  Calls Tryz.prog 131 #[.pointer (some ⟨p.a,0,none⟩),.int .i64 b,.int .i64 v,.int .u32 x] w (GP w p c (s.put (aB c b v) x) (.bool (aB c b v).isSome)):=by
 have HG:=hid hG
 clear hG
 cases hk:aB c b v with
 |none=>
  have HK:=hid hk
  clear hk
  go_enter Tryz.func131,Tryz.ntmps131
  go_wp2_with fail
  refine(Ii (gu p c s b v _ HG.out) (kV HK.out)).mono ?_
  rintro e w1 ⟨rfl,hd⟩
  have HD:=hid hd
  have HG1:=hid (HG.out.drw hd)
  have cp:=HG1.out.ptr
  clear hd
  go_wp2_with fail
  go_ret
  exact⟨rfl,HG1.out,Touch.of_below (HD.out.new)⟩
 |some k=>
  have HK:=hid hk
  have HL:=hid (show k<s.zs.length by rw[HG.out.len];exact wZ hk)
  clear hk
  go_enter Tryz.func131,Tryz.ntmps131
  go_wp2_with fail
  refine(Ii (gu p c s b v _ HG.out) (jP HK.out)).mono ?_
  rintro e w1 ⟨rfl,hd⟩
  have HD:=hid hd
  have HG1:=hid (HG.out.drw hd)
  have cp:=HG1.out.ptr
  clear hd
  go_wp2_with fail
  refine(vQ p.s p.g s.zs s.m x k _ HG1.out.st HL.out).mono ?_
  rintro e w2 ⟨rfl,hS,hT⟩
  have HS:=hid hS
  have HT:=hid hT
  clear hS hT
  go_wp2_with fail
  go_ret
  exact⟨rfl,HG1.out.step (s':=s.set k x) HS.out HT.out (s.uM k x) (HG1.out.wf.set k h0 h1),(Touch.of_below (HD.out.new)).trans HT.out⟩
theorem rV(p:Pl)(c:Cf)(s:St)(w:World)(hG:G w p c s):
  Calls Tryz.prog 27 #[.pointer (some ⟨p.a,0,none⟩)] w fun e w'=>e=.returned c.val∧Below w.heap.size w w':=by
 have cN:=hG.cN
 have cW:=hG.cW
 have cR:=hG.cR
 have cK:=hG.cK
 have ha:=hG.head.lt
 clear hG
 go_enter Tryz.func27,Tryz.ntmps27
 go_wp2_with fail
 exact bodyPost_ret (v:=c.val) (by simp[results,Tryz.results27,go_sem,Cf.val]) rfl ⟨rfl,by
  repeat refine Below.setCell ?_ (by simp) _
  exact below_new w _⟩
def St.lM(s:St)(f:Nat):Nat→St
 |0=>s
 |n+1=>(s.lM f n).set (f+n) 0
theorem St.rG(s:St)(f n:Nat):(s.lM f n).zs.length=s.zs.length:=by
 induction n with
 |zero=>rfl
 |succ n ih=>rw[←ih];exact St.uM _ _ _
theorem St.Qs(s:St)(f n:Nat):(s.lM f n).m=s.m+n:=by
 induction n with
 |zero=>rfl
 |succ n ih=>show(s.lM f n).m+1=_;omega
theorem St.Mv(s:St)(f n k:Nat)(h:f+n≤s.zs.length):nth (s.lM f n).zs k=if f≤k∧k<f+n then 0 else nth s.zs k:=by
 induction n with
 |zero=>rw[if_neg (by omega)];rfl
 |succ n ih=>
  show nth ((s.lM f n).zs.set (f+n) 0) k=_
  by_cases e:f+n=k
  ·subst e
   rw[aN (by rw[St.rG];omega),if_pos (by omega)]
  ·rw[ai e,ih (by omega)]
   by_cases h1:f≤k∧k<f+n
   ·rw[if_pos h1,if_pos (by omega)]
   ·rw[if_neg h1,if_neg (by omega)]
theorem Gl.lM{s:St}(h:Gl s.zs)(f n:Nat):Gl (s.lM f n).zs:=by
 induction n with
 |zero=>exact h
 |succ n ih=>exact Gl.set ih _ (Int.le_refl _) (by decide)
def St.wY(s:St)(c:Cf)(b:Int):St:=match aB c b 0 with|some f=>s.lM f c.W|none=>s
def Ms(c:Cf)(b:Int):Int:=if jG b c.N then(c.W:Int) else 0
theorem Mt(p:Pl)(c:Cf)(s:St)(b:Int)(w:World)(hG:G w p c s):
  Calls Tryz.prog 213 #[.pointer (some ⟨p.a,0,none⟩),.int .i64 b] w (GP w p c (s.wY c b) (.int .i64 (Ms c b))):=by
 have HG:=hid hG
 clear hG
 have e0:((0:Nat):Int)=0:=rfl
 cases hk:aB c b 0 with
 |none=>
  have HK:=hid hk
  have HB:Hid (jG b c.N=false):=hid (by
   have:=HG.out.may.w
   cases hb:jG b c.N with
   |false=>rfl
   |true=>
    have h2:jG (0:Int) c.W=true:=iX (k:=0) (by omega)
    rw[aB,hb,h2] at hk
    cases hk)
  clear hk
  go_enter Tryz.func213,Tryz.ntmps213
  go_wp2_with fail
  refine(Ii (gu p c s b 0 _ HG.out) (kV HK.out)).mono ?_
  rintro e w1 ⟨rfl,hd⟩
  have HD:=hid hd
  clear hd
  go_wp2_with fail
  go_ret
  refine⟨by unfold Ms;rw[HB.out];rfl,?_,Touch.of_below HD.out.new⟩
  rw[show s.wY c b=s by unfold St.wY;rw[HK.out]]
  exact HG.out.drw HD.out
 |some f=>
  have HK:=hid hk
  have hB:jG b c.N=true:=by
   cases hb:jG b c.N with
   |true=>rfl
   |false=>rw[aB,hb] at hk;cases hk
  have HF:Hid (f+c.W≤c.size):=hid (by
   obtain⟨i,rfl,hi⟩:=kE hB
   have h2:jG (0:Int) c.W=true:=iX (k:=0) (by have:=HG.out.may.w;omega)
   rw[aB,hB,h2] at hk
   cases hk
   have:=lN (w:=c.W-1) hi (by have:=HG.out.may.w;omega)
   have:=HG.out.may.w
   simp
   omega)
  have HB:=hid hB
  clear hk hB
  go_enter Tryz.func213,Tryz.ntmps213
  go_wp2_with fail
  refine(Ii (gu p c s b 0 _ HG.out) (jP HK.out)).mono ?_
  rintro e w1 ⟨rfl,hd⟩
  have HD:=hid hd
  have HG1:=hid (HG.out.drw hd)
  have cW:=HG1.out.cW
  clear hd
  go_wp2_with fail
  go_loopw [21] (fun i wr=>∃k:Nat,k≤c.W∧i=.int .i64 k∧G wr p c (s.lM f k)∧Touch (inG p) w wr) (fun i _=>c.W-(intOf i).toNat)
  case atStart=>exact⟨0,Nat.zero_le _,rfl,HG1.out,Touch.of_below HD.out.new⟩
  case round=>
   obtain⟨k,hkW,rfl,hGk,hTk⟩:=hrel
   have hW:=HG.out.may.w
   have HGk:=hid hGk
   have HTk:=hid hTk
   have cp:=hGk.ptr
   have cW:=hGk.cW
   have hf:f+k≤4198424:=by have:=HF.out;have:=HG.out.may.size;omega
   have hadd:IntKind.i64.wrap ((f:Int)+(k:Int))=((f+k:Nat):Int):=by rw[IntWalk.i64_in _ (by omega)];exact(Int.natCast_add f k).symm
   clear hGk hTk
   by_cases hlt:k<c.W
   ·have HL:Hid (f+k<(s.lM f k).zs.length):=hid (by rw[St.rG,HG.out.len];have:=HF.out;omega)
    go_wp2_with fail
    refine(vQ p.s p.g (s.lM f k).zs (s.lM f k).m 0 (f+k) _ HGk.out.st HL.out).mono ?_
    rintro e w2 ⟨rfl,hS,hT⟩
    have HS:=hid hS
    have HT:=hid hT
    clear hS hT
    go_wp2_with fail
    go_roundw
    case rel=>exact⟨k+1,by omega,by go_num,HGk.out.step (s':=s.lM f (k+1)) HS.out HT.out (St.uM _ _ _) (HG.out.wf.lM f (k+1)),HTk.out.trans HT.out⟩
    case measure=>simp[intOf];omega
   ·obtain rfl:k=c.W:=by omega
    go_wp2_with fail
    go_ret
    refine⟨by unfold Ms;rw[HB.out];rfl,?_,HTk.out⟩
    rw[show s.wY c b=s.lM f c.W by unfold St.wY;rw[HK.out]]
    exact HGk.out
def RF(tg ts e:TypeId)(w:World)(c:Cf)(en:Ending)(w':World):Prop:=
 ∃p:Pl,en=.returned (.tuple #[.pointer (some ⟨p.a,0,none⟩),.int .i64 0])∧kT tg ts e w' p c ⟨List.replicate c.size 0,0⟩∧(∀k,jf p k→w.heap.size≤k)∧Below w.heap.size w w'
theorem QT{c:Cf}:GM c.N c.W c.R c.K=.agg #[.int .i64 (c.size:Int),.int .i64 ((c.W:Int)-8),.int .i64 ((c.W:Int)-7),.int .i64 (fieldsI c.W),.int .i64 (ic c.N c.W),.int .i64 (iD c.N c.W),.int .i64 (Pw c.N c.W c.K),.int .i64 (AL c.N c.W c.K)]:=by
 unfold GM
 have e:Br (c.N:Int) (c.W:Int) (c.R:Int)=(c.size:Int):=by
  unfold Br Cf.size
  simp[Int.natCast_add,Int.natCast_mul]
 rw[e]
set_option maxHeartbeats 400000 in
theorem KH(c:Cf)(w:World)(h:c.May):
  Calls Tryz.prog 34 #[c.val] w (RF 82 135 119 w c):=by
 have HM:=hid h
 unfold Cf.val
 clear h
 go_enter Tryz.func34,Tryz.ntmps34
 go_wp2_with fail
 refine(Sq _ HM.out QT).mono ?_
 rintro e w1 ⟨rfl,hb⟩
 obtain⟨hc,hf⟩:=Gp hb
 have hz:w.heap.size<w1.heap.size:=by have:=hb.size;simp at this;omega
 have HB:=hid (below_step (below_new w _) hb)
 clear hb
 go_wp2_with fail
 refine(Ny c.size _ (by have:=HM.out.size;omega)).mono ?_
 rintro e w2 ⟨s,g,rfl,hS,hs,hg,hb⟩
 have HS:=hid hS
 have HB2:=hid hb
 have Hs:=hid hs
 have Hg:=hid hg
 obtain⟨hc2,hf2⟩:=Gp hb
 have hz2:w.heap.size<w2.heap.size:=by have:=hb.size;simp at this;omega
 have c0:w2.cell? ⟨w.heap.size,0,none⟩=some (.int .i64 (c.N:Int)):=by rw[hc2 _ _ (by simp;omega)];go_simp
 have c1:w2.cell? ⟨w.heap.size,1,none⟩=some (.int .i64 (c.W:Int)):=by rw[hc2 _ _ (by simp;omega)];go_simp
 have c2:w2.cell? ⟨w.heap.size,2,none⟩=some (.int .i64 (c.R:Int)):=by rw[hc2 _ _ (by simp;omega)];go_simp
 have c3:w2.cell? ⟨w.heap.size,3,none⟩=some (.int .i64 (c.K:Int)):=by rw[hc2 _ _ (by simp;omega)];go_simp
 clear hS hs hg hb hc hf hc2 hf2
 go_wp2_with fail
 go_ret2
 exact⟨⟨w2.heap.size,s,g⟩,rfl,⟨Blk.new w2 _ _,HS.out.alloc _,by simp,by have:=HS.out.head.lt;simp;omega,by have:=HS.out.body.lt;simp;omega,HM.out,Gl.rep _⟩,by
  have h1:=HB.out.size
  have h2:=HB2.out.size
  have h3:=Hs.out
  have h4:=Hg.out
  simp at h2 h3 h4
  intro k hk
  have hk':k=w2.heap.size∨k=s∨k=g:=hk
  omega,by
  have h1:=HB.out.size
  have h2:=HB2.out.size
  simp at h2
  exact((HB.out.alloc HB.out.size _).trans (HB2.out.mono (by simp;omega))).alloc (by omega) _⟩
def adr(c:Cf)(b v:Nat):Nat:=24+c.R+b*c.W+v
theorem fu{c:Cf}{b v:Nat}(hb:b<c.N)(hv:v<c.W):adr c b v<c.size:=lN hb hv
theorem fQ{c:Cf}{b v:Nat}(hb:b<c.N)(hv:v<c.W):aB c (b:Int) (v:Int)=some (adr c b v):=by
 unfold aB
 rw[iX hb,iX hv]
 rfl
theorem ax{c:Cf}{a b u v:Nat}(hu:u<c.W)(hv:v<c.W)(h:adr c a u=adr c b v):a=b∧u=v:=by
 unfold adr at h
 have h2:a*c.W+u=b*c.W+v:=by omega
 have e1:(a*c.W+u)/c.W=a:=by rw[Nat.add_comm,Nat.add_mul_div_right _ _ (by omega),Nat.div_eq_of_lt hu];omega
 have e2:(b*c.W+v)/c.W=b:=by rw[Nat.add_comm,Nat.add_mul_div_right _ _ (by omega),Nat.div_eq_of_lt hv];omega
 have:a=b:=by rw[←e1,←e2,h2]
 subst this
 exact⟨rfl,by omega⟩
theorem uE{c:Cf}{b v r:Nat}(hr:r<24):¬r=adr c b v:=by unfold adr;omega
theorem dC{c:Cf}{b v r:Nat}(hr:r<24):¬adr c b v=r:=by unfold adr;omega
theorem LC{r:Nat}(h:r<24):qb (r:Int)=some r:=by
 unfold qb;rw[iX h];simp
theorem gQ(p:Pl)(c:Cf)(s:St)(r:Nat)(x y:Int)(w:World)(hG:G w p c s)(hr:r<24)(hx:x=(r:Int))(hy:nth s.zs r=y):
  Calls Tryz.prog 87 #[.pointer (some ⟨p.a,0,none⟩),.int .i64 x] w (GP w p c s.got (.int .i64 y)):=by
 subst hx hy
 have h:=NS p c s (r:Int) w hG
 rw[LC hr] at h
 exact h
theorem aO(p:Pl)(c:Cf)(s:St)(r:Nat)(x y:Int)(w:World)(hG:G w p c s)(hr:r<24)(hx:x=(r:Int))(h0:0≤y)(h1:y≤4294967295):
  Calls Tryz.prog 78 #[.pointer (some ⟨p.a,0,none⟩),.int .i64 x,.int .i64 y] w (GP w p c (s.set r y) (.bool true)):=by
 subst hx
 have h:=FH p c s (r:Int) y w hG
 rw[LC hr] at h
 have e:s.Dk (some r) y=s.set r y:=by unfold St.Dk;rw[if_pos (Ce h0 h1)];rfl
 have e2:Lr (some r) y=true:=by unfold Lr;rw[Ce h0 h1];rfl
 rw[e,e2] at h
 exact h
theorem fq(p:Pl)(c:Cf)(s:St)(b v:Nat)(x z y:Int)(w:World)(hG:G w p c s)(hb:b<c.N)(hv:v<c.W)(hx:x=(b:Int))(hz:z=(v:Int))(hy:nth s.zs (adr c b v)=y):
  Calls Tryz.prog 85 #[.pointer (some ⟨p.a,0,none⟩),.int .i64 x,.int .i64 z] w (GP w p c s.got (.int .u32 y)):=by
 subst hx hz hy
 have h:=xc p c s (b:Int) (v:Int) w hG
 rw[fQ hb hv] at h
 exact h
theorem aK(p:Pl)(c:Cf)(s:St)(b v:Nat)(x z y:Int)(w:World)(hG:G w p c s)(hb:b<c.N)(hv:v<c.W)(hx:x=(b:Int))(hz:z=(v:Int))(h0:0≤y)(h1:y≤4294967295):
  Calls Tryz.prog 131 #[.pointer (some ⟨p.a,0,none⟩),.int .i64 x,.int .i64 z,.int .u32 y] w (GP w p c (s.set (adr c b v) y) (.bool true)):=by
 subst hx hz
 have h:=DC p c s (b:Int) (v:Int) y w hG h0 h1
 rw[fQ hb hv] at h
 exact h
theorem Dx(p:Pl)(c:Cf)(s:St)(b v:Nat)(x z y:Int)(w:World)(hG:G w p c s)(hb:b<c.N)(hv:v<c.W)(hx:x=(b:Int))(hz:z=(v:Int))(hy:nth s.zs (adr c b v)=y):
  Calls Tryz.prog 81 #[.pointer (some ⟨p.a,0,none⟩),.int .i64 x,.int .i64 z] w fun e w'=>e=.returned (.int .u32 y)∧Drw w w':=by
 subst hx hz hy
 have h:=tY p c s (b:Int) (v:Int) w hG
 rw[fQ hb hv] at h
 exact h
theorem cZ(p:Pl)(c:Cf)(s:St)(w:World)(hG:G w p c s):
  Calls Tryz.prog 27 #[.pointer (some ⟨p.a,0,none⟩)] w fun e w'=>e=.returned (.agg #[.int .i64 (c.N:Int),.int .i64 (c.W:Int),.int .i64 (c.R:Int),.int .i64 (c.K:Int)])∧Below w.heap.size w w':=rV p c s w hG
theorem bW(a b c d:Int)(w:World):(Instr.field 23 (.agg #[.int .i64 a,.int .i64 b,.int .i64 c,.int .i64 d]) 0).run Tryz.prog w=.ok (.int .i64 a) w:=by kernel_rfl
theorem jw(a b c d:Int)(w:World):(Instr.field 23 (.agg #[.int .i64 a,.int .i64 b,.int .i64 c,.int .i64 d]) 1).run Tryz.prog w=.ok (.int .i64 b) w:=by kernel_rfl
theorem Gt{l l':List Int}(h:l.length=l'.length)(hn:∀i,i<l.length→nth l i=nth l' i):l=l':=by
 apply List.ext_getElem h
 intro i h1 h2
 have:=hn i h1
 unfold nth at this
 simpa[List.getD,h1,h2] using this
def Lh(n:Nat)(f:Nat→Int):List Int:=(List.range n).map f
theorem ig(n:Nat)(f:Nat→Int):(Lh n f).length=n:=by simp[Lh]
theorem dK{n:Nat}(f:Nat→Int){i:Nat}(h:i<n):nth (Lh n f) i=f i:=by unfold nth Lh;simp[List.getD,h]
theorem nI{l:List Int}{n:Nat}{f:Nat→Int}(h:l.length=n)(hn:∀i,i<n→nth l i=f i):l=Lh n f:=
 Gt (by rw[ig,h]) (fun i hi=>by rw[dK f (by omega)];exact hn i (by omega))
theorem aX{zs:List Int}{k:Nat}(hk:k<zs.length)(v:Int)(i:Nat):nth (zs.set k v) i=if i=k then v else nth zs i:=by
 by_cases h:i=k
 ·subst h;rw[aN hk,if_pos rfl]
 ·rw[ai (fun e=>h e.symm),if_neg h]
def gz(c:Cf)(b:Nat):Nat:=24+c.R+b*c.W+5
theorem jX{c:Cf}{b:Nat}(hm:c.May)(hb:b<c.N):gz c b<c.size:=lN hb (by have:=hm.w;omega)
theorem qH{c:Cf}(hm:c.May){a b:Nat}(h:gz c a=gz c b):a=b:=by
 have hw:=hm.w
 unfold gz at h
 have h2:a*c.W=b*c.W:=by omega
 exact Nat.eq_of_mul_eq_mul_right (by omega) h2
theorem mg{c:Cf}{b r:Nat}(hr:r<24):¬r=gz c b:=by unfold gz;omega
theorem bN{c:Cf}{b r:Nat}(hr:r<24):¬gz c b=r:=by unfold gz;omega
def jU:List Nat→Int
 |[]=>0
 |b::_=>(b:Int)+1
def jY:List Nat→Int
 |[]=>0
 |[b]=>(b:Int)+1
 |_::b::t=>jY (b::t)
theorem oN:∀{l:List Nat},jY l=0→l=[]
 |[],_=>rfl
 |[b],h=>absurd (show((b:Int)+1)=0 from h) (by omega)
 |_::b::t,h=>absurd (oN (l:=b::t) h) (by simp)
theorem jJ:∀(l:List Nat) (b:Nat),jY (l++[b])=(b:Int)+1
 |[],b=>rfl
 |[a],b=>rfl
 |a::a'::t,b=>jJ (a'::t) b
theorem gN:∀(l:List Nat),l≠[]→∃b,b∈l∧jY l=(b:Int)+1
 |[],h=>absurd rfl h
 |[b],_=>⟨b,by simp,rfl⟩
 |a::b::t,_=>by
  obtain⟨x,hx,he⟩:=gN (b::t) (by simp)
  exact⟨x,by simp at hx ⊢;exact Or.inr hx,he⟩
theorem yJ(l:List Nat)(b:Nat):jU (l++[b])=if l=[] then(b:Int)+1 else jU l:=by
 cases l with
 |nil=>rfl
 |cons a t=>rfl
def nC(c:Cf)(zs:List Int):List Nat→Prop
 |[]=>True
 |b::t=>nth zs (gz c b)=jU t∧nC c zs t
theorem nC.congr{c:Cf}{zs zs':List Int}:∀{l:List Nat},nC c zs l→(∀b,b∈l→nth zs' (gz c b)=nth zs (gz c b))→nC c zs' l
 |[],_,_=>trivial
 |b::t,h,hc=>⟨by rw[hc b (by simp)];exact h.1,nC.congr h.2 (fun x hx=>hc x (by simp[hx]))⟩
theorem nC.snoc{c:Cf}{zs zs':List Int}{b:Nat}(hb:nth zs' (gz c b)=0):∀{l:List Nat},nC c zs l→l.Nodup→(∀a,a∈l→nth zs' (gz c a)=if jY l=(a:Int)+1 then(b:Int)+1 else nth zs (gz c a))→nC c zs' (l++[b])
 |[],_,_,_=>⟨hb,trivial⟩
 |[a],h,_,hc=>⟨by rw[hc a (by simp),if_pos (show jY [a]=(a:Int)+1 from rfl)];rfl,hb,trivial⟩
 |a::a'::t,h,hn,hc=>by
  refine⟨?_,nC.snoc hb (l:=a'::t) h.2 (List.nodup_cons.1 hn).2 (fun x hx=>hc x (List.mem_cons_of_mem _ hx))⟩
  have hne:jY (a::a'::t)≠(a:Int)+1:=by
   intro e
   obtain⟨x,hx,he⟩:=gN (a'::t) (by simp)
   have:x=a:=by have:jY (a::a'::t)=(x:Int)+1:=he;omega
   subst this
   exact(List.nodup_cons.1 hn).1 hx
  rw[hc a (by simp),if_neg hne]
  exact h.1
structure aR (c:Cf) (zs:List Int) (k:Nat) (l:List Nat):Prop where
 r0:nth zs (3*k)=jU l
 r1:nth zs (3*k+1)=jY l
 r2:nth zs (3*k+2)=(l.length:Int)
 lt:∀b,b∈l→b<c.N
 nd:l.Nodup
 ln:nC c zs l
theorem dX:∀{N:Nat} {l:List Nat},l.Nodup→(∀b,b∈l→b<N)→l.length≤N
 |0,[],_,_=>Nat.le_refl _
 |0,b::t,_,hl=>absurd (hl b (by simp)) (by omega)
 |N+1,l,hn,hl=>by
  by_cases h:N∈l
  ·have h1:=dX (N:=N) (l:=l.erase N) (hn.erase N) (fun b hb=>by
    have h2:=(hn.mem_erase_iff).1 hb
    have:=hl b h2.2
    have:=h2.1
    omega)
   rw[List.length_erase_of_mem h] at h1
   omega
  ·have h1:=dX (N:=N) (l:=l) hn (fun b hb=>by
    have:=hl b hb
    have:b≠N:=fun e=>h (by rw[←e];exact hb)
    omega)
   omega
theorem aR.congr{c:Cf}{zs zs':List Int}{k:Nat}{l:List Nat}(h:aR c zs k l)(h0:nth zs' (3*k)=nth zs (3*k))(h1:nth zs' (3*k+1)=nth zs (3*k+1))(h2:nth zs' (3*k+2)=nth zs (3*k+2))
  (hc:∀b,b∈l→nth zs' (gz c b)=nth zs (gz c b)):aR c zs' k l:=
 ⟨h0.trans h.r0,h1.trans h.r1,h2.trans h.r2,h.lt,h.nd,h.ln.congr hc⟩
def mQ(c:Cf)(k b:Nat)(zs:List Int)(i:Nat):Int:=
 if i=3*k+2 then nth zs (3*k+2)+1 else if i=3*k then(b:Int)+1 else if i=3*k+1 then(if nth zs (3*k)=0 then(b:Int)+1 else nth zs (3*k+1)) else if i=gz c b then nth zs (3*k) else nth zs i
def addN(c:Cf)(k b:Nat)(zs:List Int)(i:Nat):Int:=
 if i=3*k+2 then nth zs (3*k+2)+1 else if i=3*k then(if nth zs (3*k+1)=0 then(b:Int)+1 else nth zs (3*k)) else if i=3*k+1 then(b:Int)+1 else if i=gz c b then 0
 else if nth zs (3*k+1)≠0∧i=gz c (nth zs (3*k+1)-1).toNat then(b:Int)+1 else nth zs i
def takeN(c:Cf)(k b:Nat)(zs:List Int)(i:Nat):Int:=
 if i=3*k+2 then nth zs (3*k+2)-1 else if i=3*k then nth zs (gz c b) else if i=3*k+1 then(if nth zs (gz c b)=0 then 0 else nth zs (3*k+1)) else if i=gz c b then 0 else nth zs i
def nT(c:Cf)(k b:Nat)(zs:List Int):List Int:=Lh zs.length (mQ c k b zs)
def iT(c:Cf)(k b:Nat)(zs:List Int):List Int:=Lh zs.length (addN c k b zs)
def eO(c:Cf)(k b:Nat)(zs:List Int):List Int:=Lh zs.length (takeN c k b zs)
theorem qV(c:Cf)(k b:Nat)(zs:List Int):(nT c k b zs).length=zs.length:=ig _ _
theorem jh(c:Cf)(k b:Nat)(zs:List Int):(iT c k b zs).length=zs.length:=ig _ _
theorem eu(c:Cf)(k b:Nat)(zs:List Int):(eO c k b zs).length=zs.length:=ig _ _
section
variable {c:Cf} {zs:List Int} {k b:Nat} {l:List Nat}
theorem aR.push(h:aR c zs k l)(hm:c.May)(hz:zs.length=c.size)(hk:k<2)(hb:b<c.N)(hn:b∉l):aR c (nT c k b zs) k (b::l):=by
 have hs:=hm.size
 have g:∀i,i<c.size→nth (nT c k b zs) i=mQ c k b zs i:=fun i hi=>dK _ (by omega)
 have gl:∀x,x<c.N→nth (nT c k b zs) (gz c x)=if x=b then nth zs (3*k) else nth zs (gz c x):=fun x hx=>by
  rw[g _ (jX hm hx)]
  unfold mQ
  rw[if_neg (bN (by omega)),if_neg (bN (by omega)),if_neg (bN (by omega))]
  by_cases e:x=b
  ·subst e;rw[if_pos rfl,if_pos rfl]
  ·rw[if_neg (fun h=>e (qH hm h)),if_neg e]
 refine⟨?_,?_,?_,?_,List.nodup_cons.2 ⟨hn,h.nd⟩,?_,?_⟩
 ·rw[g _ (by omega)];unfold mQ;rw[if_neg (by omega),if_pos rfl];rfl
 ·rw[g _ (by omega)];unfold mQ;rw[if_neg (by omega),if_neg (by omega),if_pos rfl,h.r0,h.r1]
  cases l with
  |nil=>rfl
  |cons a t=>rw[if_neg (show ¬(jU (a::t)=0) from fun e=>absurd (show((a:Int)+1)=0 from e) (by omega))];rfl
 ·rw[g _ (by omega)];unfold mQ;rw[if_pos rfl,h.r2];simp
 ·intro x hx
  rcases List.mem_cons.1 hx with rfl|hx
  ·exact hb
  ·exact h.lt x hx
 ·rw[gl b hb,if_pos rfl];exact h.r0
 ·exact h.ln.congr (fun x hx=>by rw[gl x (h.lt x hx),if_neg (fun e:x=b=>hn (by rw[←e];exact hx))])
theorem aR.add(h:aR c zs k l)(hm:c.May)(hz:zs.length=c.size)(hk:k<2)(hb:b<c.N)(hn:b∉l):aR c (iT c k b zs) k (l++[b]):=by
 have hs:=hm.size
 have g:∀i,i<c.size→nth (iT c k b zs) i=addN c k b zs i:=fun i hi=>dK _ (by omega)
 have gl:∀x,x<c.N→x≠b→nth (iT c k b zs) (gz c x)=if jY l=(x:Int)+1 then(b:Int)+1 else nth zs (gz c x):=fun x hx e=>by
  rw[g _ (jX hm hx)]
  unfold addN
  rw[if_neg (bN (by omega)),if_neg (bN (by omega)),if_neg (bN (by omega)),if_neg (fun h=>e (qH hm h)),h.r1]
  by_cases e2:jY l=(x:Int)+1
  ·rw[if_pos e2,if_pos ⟨by omega,by rw[e2];congr 1;omega⟩]
  ·rw[if_neg e2,if_neg]
   rintro⟨h1,h2⟩
   have h3:=qH hm h2
   obtain⟨y,_,hy⟩:=gN l (fun h=>h1 (by rw[h];rfl))
   rw[hy] at h3
   exact e2 (by rw[hy];omega)
 have gb:nth (iT c k b zs) (gz c b)=0:=by
  rw[g _ (jX hm hb)]
  unfold addN
  rw[if_neg (bN (by omega)),if_neg (bN (by omega)),if_neg (bN (by omega)),if_pos rfl]
 refine⟨?_,?_,?_,?_,?_,?_⟩
 ·rw[g _ (by omega)];unfold addN;rw[if_neg (by omega),if_pos rfl,h.r1,h.r0,yJ]
  by_cases e:l=[]
  ·subst e;rfl
  ·rw[if_neg (fun h=>e (oN h)),if_neg e]
 ·rw[g _ (by omega)];unfold addN;rw[if_neg (by omega),if_neg (by omega),if_pos rfl,jJ]
 ·rw[g _ (by omega)];unfold addN;rw[if_pos rfl,h.r2];simp
 ·intro x hx
  rcases List.mem_append.1 hx with hx|hx
  ·exact h.lt x hx
  ·simp at hx;subst hx;exact hb
 ·rw[List.nodup_append]
  exact⟨h.nd,by simp,fun x hx y hy=>by simp at hy;subst hy;exact fun e=>hn (by rw[←e];exact hx)⟩
 ·exact nC.snoc gb h.ln h.nd (fun x hx=>gl x (h.lt x hx) (fun e=>hn (by rw[←e];exact hx)))
theorem aR.take(h:aR c zs k (b::l))(hm:c.May)(hz:zs.length=c.size)(hk:k<2):aR c (eO c k b zs) k l∧nth (eO c k b zs) (gz c b)=0:=by
 have hs:=hm.size
 have hb:=h.lt b (by simp)
 have hn:=(List.nodup_cons.1 h.nd).1
 have hl:=h.ln.1
 have g:∀i,i<c.size→nth (eO c k b zs) i=takeN c k b zs i:=fun i hi=>dK _ (by omega)
 have gl:∀x,x<c.N→nth (eO c k b zs) (gz c x)=if x=b then 0 else nth zs (gz c x):=fun x hx=>by
  rw[g _ (jX hm hx)]
  unfold takeN
  rw[if_neg (bN (by omega)),if_neg (bN (by omega)),if_neg (bN (by omega))]
  by_cases e:x=b
  ·subst e;rw[if_pos rfl,if_pos rfl]
  ·rw[if_neg (fun h=>e (qH hm h)),if_neg e]
 refine⟨⟨?_,?_,?_,fun x hx=>h.lt x (by simp[hx]),(List.nodup_cons.1 h.nd).2,?_⟩,by rw[gl b hb,if_pos rfl]⟩
 ·rw[g _ (by omega)];unfold takeN;rw[if_neg (by omega),if_pos rfl];exact hl
 ·rw[g _ (by omega)];unfold takeN;rw[if_neg (by omega),if_neg (by omega),if_pos rfl,hl,h.r1]
  cases l with
  |nil=>rfl
  |cons a t=>rw[if_neg (show ¬(jU (a::t)=0) from fun e=>absurd (show((a:Int)+1)=0 from e) (by omega))];rfl
 ·rw[g _ (by omega)];unfold takeN;rw[if_pos rfl,h.r2];simp
 ·exact h.ln.2.congr (fun x hx=>by rw[gl x (h.lt x (by simp[hx])),if_neg (fun e:x=b=>hn (by rw[←e];exact hx))])
end
def gY(c:Cf)(f:FuncId)(args:List Value)(zs:List Int)(B:Nat)(zs':List Int)(v:Value):Prop:=
 ∃d,d≤B∧∀(p:Pl) (m:Nat) (w:World),G w p c ⟨zs,m⟩→Calls Tryz.prog f (List.toArray (.pointer (some ⟨p.a,0,none⟩)::args)) w (GP w p c ⟨zs',m+d⟩ v)
structure Wz (c:Cf) (zs:List Int):Prop where
 may:c.May
 len:zs.length=c.size
 wf:Gl zs
theorem kT.wz{tg ts e:TypeId}{w:World}{p:Pl}{c:Cf}{s:St}(h:kT tg ts e w p c s):Wz c s.zs:=⟨h.may,h.len,h.wf⟩
theorem kT.dW{tg ts e:TypeId}{w:World}{p:Pl}{c:Cf}{s:St}(h:kT tg ts e w p c s){i:Nat}(hi:jf p i):i<w.heap.size:=by
 rcases hi with rfl|rfl|rfl
 ·exact h.head.lt
 ·exact h.st.head.lt
 ·exact h.st.body.lt
def Looks(c:Cf)(f:FuncId)(args:List Value)(zs:List Int)(Q:World→Ending→World→Prop):Prop:=
 ∀(p:Pl) (m:Nat) (w:World),G w p c ⟨zs,m⟩→Calls Tryz.prog f (List.toArray (.pointer (some ⟨p.a,0,none⟩)::args)) w (Q w)
def dB(x:Int):Prop:=bY (uK x) (uC x) (uN x) (uS x) (uD x) (uG x) (uO x)∧x/128%2=0∧0≤x
def bF(x:Int):Prop:=uK x=1∨uK x=2
theorem dB.pack{x:Int}(h:dB x):bZ (uK x) (uC x) (uN x) (uS x) (uD x) (uG x) (uO x)=x:=by
 rw[CY,h.2.1];omega
theorem dB.bd{x:Int}(h:dB x):0≤x∧x≤268435455:=by
 obtain⟨⟨_,⟨o0,o1⟩,_⟩,h7,h0⟩:=h
 unfold uO at o1
 omega
theorem Mq(x:Int):uG x=0∨uG x=1:=by unfold uG;omega
theorem dB.OM{x:Int}(h:dB x)(hk:bF x)(hg:uG x=0):
  dB (x+64)∧bZ (uK x) (uC x) (uN x) (uS x) (uD x) 1 (uO x)=x+64∧bY (uK x) (uC x) (uN x) (uS x) (uD x) 1 (uO x)∧uK (x+64)=uK x∧uC (x+64)=uC x∧uN (x+64)=uN x∧uS (x+64)=uS x∧uD (x+64)=uD x∧uG (x+64)=1∧uO (x+64)=uO x:=by
 have e0:uK (x+64)=uK x:=by unfold uK;omega
 have e1:uC (x+64)=uC x:=by unfold uC;omega
 have e2:uN (x+64)=uN x:=by unfold uN;omega
 have e3:uS (x+64)=uS x:=by unfold uS;omega
 have e4:uD (x+64)=uD x:=by unfold uD;omega
 have e5:uG (x+64)=1:=by unfold uG at hg ⊢;omega
 have h7:=h.2.1
 have e6:uO (x+64)=uO x:=by unfold uO;unfold uG at hg;omega
 have r:=h.1
 have hr:bY (uK x) (uC x) (uN x) (uS x) (uD x) 1 (uO x):=by
  unfold bF at hk
  exact⟨r.1,r.2.1,r.2.2.1,r.2.2.2.1,r.2.2.2.2.1,r.2.2.2.2.2.1,r.2.2.2.2.2.2.1,by omega,fun h=>by omega⟩
 refine⟨⟨by rw[e0,e1,e2,e3,e4,e5,e6];exact hr,by unfold uG at hg;omega,by have:=h.2.2;omega⟩,?_,hr,e0,e1,e2,e3,e4,e5,e6⟩
 have hp:=h.pack
 rw[hg] at hp
 unfold bZ at hp ⊢
 omega
theorem dB.OL{x:Int}(h:dB x)(hk:bF x)(hg:uG x=1):
  dB (x-64)∧bZ (uK x) (uC x) (uN x) (uS x) (uD x) 0 (uO x)=x-64∧bY (uK x) (uC x) (uN x) (uS x) (uD x) 0 (uO x)∧uK (x-64)=uK x∧uC (x-64)=uC x∧uN (x-64)=uN x∧uS (x-64)=uS x∧uD (x-64)=uD x∧uG (x-64)=0∧uO (x-64)=uO x:=by
 have e0:uK (x-64)=uK x:=by unfold uK;omega
 have e1:uC (x-64)=uC x:=by unfold uC;omega
 have e2:uN (x-64)=uN x:=by unfold uN;omega
 have e3:uS (x-64)=uS x:=by unfold uS;omega
 have e4:uD (x-64)=uD x:=by unfold uD;omega
 have e5:uG (x-64)=0:=by unfold uG at hg ⊢;omega
 have h7:=h.2.1
 have e6:uO (x-64)=uO x:=by unfold uO;unfold uG at hg;omega
 have r:=h.1
 have hr:bY (uK x) (uC x) (uN x) (uS x) (uD x) 0 (uO x):=by
  unfold bF at hk
  exact⟨r.1,r.2.1,r.2.2.1,r.2.2.2.1,r.2.2.2.2.1,r.2.2.2.2.2.1,r.2.2.2.2.2.2.1,by omega,fun h=>by omega⟩
 refine⟨⟨by rw[e0,e1,e2,e3,e4,e5,e6];exact hr,by unfold uG at hg;omega,by have:=h.2.2;unfold uG at hg;omega⟩,?_,hr,e0,e1,e2,e3,e4,e5,e6⟩
 have hp:=h.pack
 rw[hg] at hp
 unfold bZ at hp ⊢
 omega
def xy:List Nat→Int→Int
 |[],z=>z
 |b::_,_=>(b:Int)+1
def Cx:List Nat→Int→Int
 |[],a=>a
 |b::t,_=>Cx t ((b:Int)+1)
theorem Kz(l:List Nat):xy l 0=jU l:=by cases l<;>rfl
theorem IL(l:List Nat)(b:Nat)(a:Int):Cx (l++[b]) a=(b:Int)+1:=by
 induction l generalizing a with
 |nil=>rfl
 |cons x t ih=>exact ih _
theorem rZ(l:List Nat):Cx l 0=jY l:=by
 rcases List.eq_nil_or_concat l with rfl|⟨t,x,rfl⟩
 ·rfl
 ·rw[List.concat_eq_append,IL,jJ]
theorem Cm(l1 l2:List Nat)(z:Int):xy (l1++l2) z=xy l1 (xy l2 z):=by cases l1<;>rfl
theorem tL(l1 l2:List Nat)(a:Int):Cx (l1++l2) a=Cx l2 (Cx l1 a):=by
 induction l1 generalizing a with
 |nil=>rfl
 |cons x t ih=>exact ih _
def Seg(c:Cf)(zs:List Int):Int→List Nat→Int→Prop
 |_,[],_=>True
 |a,b::t,z=>nth zs (adr c b 6)=a∧nth zs (adr c b 7)=xy t z∧Seg c zs ((b:Int)+1) t z
theorem Seg.congr{c:Cf}{zs zs':List Int}{l:List Nat}{a z:Int}(h:Seg c zs a l z)(hc:∀b,b∈l→nth zs' (adr c b 6)=nth zs (adr c b 6)∧nth zs' (adr c b 7)=nth zs (adr c b 7)):Seg c zs' a l z:=by
 induction l generalizing a with
 |nil=>trivial
 |cons b t ih=>exact⟨by rw[(hc b (by simp)).1];exact h.1,by rw[(hc b (by simp)).2];exact h.2.1,ih h.2.2 (fun x hx=>hc x (by simp[hx]))⟩
theorem gZ{c:Cf}{zs:List Int}{l1 l2:List Nat}{a z:Int}:Seg c zs a (l1++l2) z↔Seg c zs a l1 (xy l2 z)∧Seg c zs (Cx l1 a) l2 z:=by
 induction l1 generalizing a with
 |nil=>exact⟨fun h=>⟨trivial,h⟩,fun h=>h.2⟩
 |cons b t ih=>
  show(nth zs (adr c b 6)=a∧nth zs (adr c b 7)=xy (t++l2) z∧Seg c zs ((b:Int)+1) (t++l2) z)↔(nth zs (adr c b 6)=a∧nth zs (adr c b 7)=xy t (xy l2 z)∧Seg c zs ((b:Int)+1) t (xy l2 z))∧Seg c zs (Cx t ((b:Int)+1)) l2 z
  rw[ih,Cm]
  exact⟨fun h=>⟨⟨h.1,h.2.1,h.2.2.1⟩,h.2.2.2⟩,fun h=>⟨h.1.1,h.1.2.1,h.1.2.2,h.2⟩⟩
structure RingAt (c:Cf) (zs:List Int) (l:List Nat):Prop where
 r7:nth zs 7=jU l
 r8:nth zs 8=jY l
 r9:nth zs 9=(l.length:Int)
 lt:∀b,b∈l→b<c.N
 nd:l.Nodup
 seg:Seg c zs 0 l 0
 tok:∀b,b<c.N→dB (nth zs (adr c b 0))
 hd:∀b,b∈l→bF (nth zs (adr c b 0))
 mrk:∀b,b<c.N→(uG (nth zs (adr c b 0))=1↔b∈l)
theorem RingAt.QQ{c:Cf}{zs:List Int}{l:List Nat}(h:RingAt c zs l){b:Nat}(hb:b<c.N)(hn:b∉l):uG (nth zs (adr c b 0))=0:=by
 rcases Mq (nth zs (adr c b 0)) with h0|h1
 ·exact h0
 ·exact absurd ((h.mrk b hb).1 h1) hn
theorem RingAt.split{c:Cf}{zs:List Int}{l1 l2:List Nat}{b:Nat}(h:RingAt c zs (l1++b::l2)):nth zs (adr c b 6)=jY l1∧nth zs (adr c b 7)=jU l2:=by
 have:=(gZ.1 h.seg).2
 exact⟨by rw[this.1,rZ],by rw[this.2.1,Kz]⟩
theorem DJ{l:List Nat}{b:Nat}(h:b∈l):∃l1 l2,l=l1++b::l2:=List.append_of_mem h
def eU(c:Cf)(b:Nat)(zs:List Int)(i:Nat):Int:=
 if i=7 then(if nth zs 8=0 then(b:Int)+1 else nth zs 7) else if i=8 then(b:Int)+1 else if i=9 then nth zs 9+1
 else if i=adr c b 0 then nth zs (adr c b 0)+64 else if i=adr c b 6 then nth zs 8 else if i=adr c b 7 then 0
 else if nth zs 8≠0∧i=adr c (nth zs 8-1).toNat 7 then(b:Int)+1 else nth zs i
def eX(c:Cf)(b:Nat)(zs:List Int)(i:Nat):Int:=
 if i=7 then(if nth zs (adr c b 6)=0 then nth zs (adr c b 7) else nth zs 7) else if i=8 then(if nth zs (adr c b 7)=0 then nth zs (adr c b 6) else nth zs 8) else if i=9 then nth zs 9-1
 else if i=adr c b 0 then nth zs (adr c b 0)-64 else if i=adr c b 6 then 0 else if i=adr c b 7 then 0
 else if nth zs (adr c b 6)≠0∧i=adr c (nth zs (adr c b 6)-1).toNat 7 then nth zs (adr c b 7)
 else if nth zs (adr c b 7)≠0∧i=adr c (nth zs (adr c b 7)-1).toNat 6 then nth zs (adr c b 6) else nth zs i
def bg(c:Cf)(b:Nat)(zs:List Int):List Int:=Lh zs.length (eU c b zs)
def aY(c:Cf)(b:Nat)(zs:List Int):List Int:=Lh zs.length (eX c b zs)
theorem mR(c:Cf)(b:Nat)(zs:List Int):(bg c b zs).length=zs.length:=ig _ _
theorem mU(c:Cf)(b:Nat)(zs:List Int):(aY c b zs).length=zs.length:=ig _ _
theorem jO{c:Cf}(hm:c.May){a b u v:Nat}(hu:u<16)(hv:v<16):(adr c a u=adr c b v)↔(a=b∧u=v):=by
 have:=hm.w
 exact⟨fun h=>ax (by omega) (by omega) h,fun h=>by rw[h.1,h.2]⟩
theorem iC{c:Cf}(hm:c.May){b u:Nat}(hb:b<c.N)(hu:u<16):adr c b u<c.size:=by
 have:=hm.w
 exact fu hb (by omega)
section
variable {c:Cf} {zs:List Int} {b:Nat} {l:List Nat}
theorem RingAt.add(h:RingAt c zs l)(hm:c.May)(hz:zs.length=c.size)(hb:b<c.N)(hn:b∉l)(hk:bF (nth zs (adr c b 0))):RingAt c (bg c b zs) (l++[b]):=by
 have hs:=hm.size
 have g:∀i,i<c.size→nth (bg c b zs) i=eU c b zs i:=fun i hi=>dK _ (by omega)
 have hR:∀(x u r:Nat),r<24→¬adr c x u=r:=fun x u r hr=>dC hr
 have hR':∀(x u r:Nat),r<24→¬r=adr c x u:=fun x u r hr=>uE hr
 have g0:∀x,x<c.N→nth (bg c b zs) (adr c x 0)=if x=b then nth zs (adr c b 0)+64 else nth zs (adr c x 0):=fun x hx=>by
  rw[g _ (iC hm hx (by omega))]
  unfold eU
  simp[hR,jO hm]
 have g6:∀x,x<c.N→nth (bg c b zs) (adr c x 6)=if x=b then nth zs 8 else nth zs (adr c x 6):=fun x hx=>by
  rw[g _ (iC hm hx (by omega))]
  unfold eU
  simp[hR,jO hm]
 have g7:∀x,x<c.N→nth (bg c b zs) (adr c x 7)=if x=b then 0 else if nth zs 8≠0∧x=(nth zs 8-1).toNat then(b:Int)+1 else nth zs (adr c x 7):=fun x hx=>by
  rw[g _ (iC hm hx (by omega))]
  unfold eU
  simp[hR,jO hm]
 have ht:=h.tok b hb
 have hg0:=h.QQ hb hn
 obtain⟨t1,_,_,k1,_,_,_,_,g1,_⟩:=ht.OM hk hg0
 refine⟨?_,?_,?_,?_,?_,?_,?_,?_,?_⟩
 ·rw[g _ (by omega)];unfold eU;rw[if_pos rfl,h.r8,h.r7,yJ]
  by_cases e:l=[]
  ·subst e;rfl
  ·rw[if_neg (fun h=>e (oN h)),if_neg e]
 ·rw[g _ (by omega)];unfold eU;rw[if_neg (by omega),if_pos rfl,jJ]
 ·rw[g _ (by omega)];unfold eU;rw[if_neg (by omega),if_neg (by omega),if_pos rfl,h.r9];simp
 ·intro x hx
  rcases List.mem_append.1 hx with hx|hx
  ·exact h.lt x hx
  ·simp at hx;subst hx;exact hb
 ·rw[List.nodup_append]
  exact⟨h.nd,by simp,fun x hx y hy=>by simp at hy;subst hy;exact fun e=>hn (by rw[←e];exact hx)⟩
 ·rw[gZ]
  refine⟨?_,⟨by rw[g6 b hb,if_pos rfl,h.r8,rZ],by rw[g7 b hb,if_pos rfl];rfl,trivial⟩⟩
  show Seg c _ 0 l ((b:Int)+1)
  rcases List.eq_nil_or_concat l with rfl|⟨t,x,rfl⟩
  ·trivial
  ·rw[List.concat_eq_append] at h hn ⊢
   have hx:=h.lt x (by simp)
   have hxb:x≠b:=fun e=>hn (by simp[e])
   have h8:nth zs 8=(x:Int)+1:=by rw[h.r8,jJ]
   have hnd:=List.nodup_append.1 h.nd
   obtain⟨s1,s2,s3,_⟩:=gZ.1 h.seg
   rw[gZ]
   refine⟨s1.congr (fun y hy=> ?_),?_,?_,trivial⟩
   ·have hyN:=h.lt y (by simp[hy])
    have hyb:y≠b:=fun e=>hn (by simp[←e,hy])
    have hyx:y≠x:=fun e=>hnd.2.2 y hy x (by simp) e
    rw[g6 y hyN,if_neg hyb,g7 y hyN,if_neg hyb,h8,if_neg (by omega)]
    exact⟨rfl,rfl⟩
   ·rw[g6 x hx,if_neg hxb];exact s2
   ·rw[g7 x hx,if_neg hxb,h8,if_pos ⟨by omega,by omega⟩];rfl
 ·intro x hx
  rw[g0 x hx]
  by_cases e:x=b
  ·rw[if_pos e];exact t1
  ·rw[if_neg e];exact h.tok x hx
 ·intro x hx
  rcases List.mem_append.1 hx with hx|hx
  ·have:x≠b:=fun e=>hn (by rw[←e];exact hx)
   rw[g0 x (h.lt x hx),if_neg this];exact h.hd x hx
  ·simp at hx;subst hx
   rw[g0 x hb,if_pos rfl];unfold bF at hk ⊢;rw[k1];exact hk
 ·intro x hx
  rw[g0 x hx]
  by_cases e:x=b
  ·rw[if_pos e,g1];simp[e]
  ·rw[if_neg e,h.mrk x hx];simp[e]
theorem RingAt.cut{l1 l2:List Nat}(h:RingAt c zs (l1++b::l2))(hm:c.May)(hz:zs.length=c.size):RingAt c (aY c b zs) (l1++l2):=by
 have hs:=hm.size
 have hb:=h.lt b (by simp)
 have g:∀i,i<c.size→nth (aY c b zs) i=eX c b zs i:=fun i hi=>dK _ (by omega)
 have hR:∀(x u r:Nat),r<24→¬adr c x u=r:=fun x u r hr=>dC hr
 obtain⟨hp,hq⟩:=h.split
 have g0:∀x,x<c.N→nth (aY c b zs) (adr c x 0)=if x=b then nth zs (adr c b 0)-64 else nth zs (adr c x 0):=fun x hx=>by
  rw[g _ (iC hm hx (by omega))]
  unfold eX
  simp[hR,jO hm]
 have g6:∀x,x<c.N→nth (aY c b zs) (adr c x 6)=if x=b then 0 else if jU l2≠0∧x=(jU l2-1).toNat then jY l1 else nth zs (adr c x 6):=fun x hx=>by
  rw[g _ (iC hm hx (by omega))]
  unfold eX
  rw[hp,hq]
  simp[hR,jO hm]
 have g7:∀x,x<c.N→nth (aY c b zs) (adr c x 7)=if x=b then 0 else if jY l1≠0∧x=(jY l1-1).toNat then jU l2 else nth zs (adr c x 7):=fun x hx=>by
  rw[g _ (iC hm hx (by omega))]
  unfold eX
  rw[hp,hq]
  simp[hR,jO hm]
 have ht:=h.tok b hb
 have hg1:=(h.mrk b hb).2 (by simp)
 obtain⟨t1,_,_,k1,_,_,_,_,g1,_⟩:=ht.OL (h.hd b (by simp)) hg1
 have hnd:=h.nd
 rw[List.nodup_append] at hnd
 obtain⟨n1,n2,n3⟩:=hnd
 obtain⟨n4,n5⟩:=List.nodup_cons.1 n2
 have hb1:b∉l1:=fun hx=>n3 b hx b (by simp) rfl
 have n6:∀x,x∈l1→x∉l2:=fun x hx hy=>n3 x hx x (by simp[hy]) rfl
 have hmem:∀x,x∈l1++l2→x∈l1++b::l2:=fun x hx=>by
  rcases List.mem_append.1 hx with hx|hx
  ·simp[hx]
  ·simp[hx]
 have hne:∀x,x∈l1++l2→x≠b:=fun x hx e=>by
  rcases List.mem_append.1 hx with hx|hx
  ·exact hb1 (by rw[←e];exact hx)
  ·exact n4 (by rw[←e];exact hx)
 obtain⟨s1,s2⟩:=gZ.1 h.seg
 obtain⟨s3,s4,s5⟩:=s2
 have hf2:∀x,jU l2≠0∧x=(jU l2-1).toNat→x∈l2:=by
  rintro x ⟨h1,h2⟩
  cases l2 with
  |nil=>exact absurd rfl h1
  |cons y t=>
   have:jU (y::t)=(y:Int)+1:=rfl
   rw[this] at h2
   have:x=y:=by omega
   rw[this];simp
 have hl1:∀x,jY l1≠0∧x=(jY l1-1).toNat→x∈l1:=by
  rintro x ⟨h1,h2⟩
  obtain⟨y,hy,he⟩:=gN l1 (fun e=>h1 (by rw[e];rfl))
  rw[he] at h2
  have:x=y:=by omega
  rw[this];exact hy
 refine⟨?_,?_,?_,?_,?_,?_,?_,?_,?_⟩
 ·rw[g _ (by omega)];unfold eX;rw[if_pos rfl,hp,hq,h.r7]
  cases l1 with
  |nil=>rfl
  |cons x t=>rw[if_neg (fun e=>absurd (oN e) (by simp))];rfl
 ·rw[g _ (by omega)];unfold eX;rw[if_neg (by omega),if_pos rfl,hp,hq,h.r8,←rZ,←rZ,←rZ,tL,tL]
  cases l2 with
  |nil=>rfl
  |cons y t=>rw[if_neg (show ¬(jU (y::t)=0) from fun e=>absurd (show((y:Int)+1)=0 from e) (by omega))];rfl
 ·rw[g _ (by omega)];unfold eX;rw[if_neg (by omega),if_neg (by omega),if_pos rfl,h.r9];simp;omega
 ·intro x hx;exact h.lt x (hmem x hx)
 ·rw[List.nodup_append]
  exact⟨n1,n5,fun x hx y hy e=>n6 x hx (by rw[e];exact hy)⟩
 ·rw[gZ]
  constructor
  ·rw[Kz]
   rcases List.eq_nil_or_concat l1 with rfl|⟨t,x,rfl⟩
   ·trivial
   ·rw[List.concat_eq_append] at*
    have hx:=h.lt x (by simp)
    have hxb:=hne x (by simp)
    have hl:jY (t++[x])=(x:Int)+1:=jJ t x
    have hnt:=List.nodup_append.1 n1
    rw[gZ] at s1 ⊢
    obtain⟨u1,u2,u3,_⟩:=s1
    refine⟨u1.congr (fun y hy=> ?_),?_,?_,trivial⟩
    ·have hyN:=h.lt y (by simp[hy])
     have hyb:=hne y (by simp[hy])
     have hyx:y≠x:=fun e=>hnt.2.2 y hy x (by simp) e
     rw[g6 y hyN,if_neg hyb,if_neg (fun e=>n6 y (by simp[hy]) (hf2 y e)),g7 y hyN,if_neg hyb,hl,if_neg (by omega)]
     exact⟨rfl,rfl⟩
    ·rw[g6 x hx,if_neg hxb,if_neg (fun e=>n6 x (by simp) (hf2 x e))];exact u2
    ·rw[g7 x hx,if_neg hxb,hl,if_pos ⟨by omega,by omega⟩];rfl
  ·cases l2 with
   |nil=>trivial
   |cons y t=>
    have hy:=h.lt y (by simp)
    have hyb:=hne y (by simp)
    have hy1:y∉l1:=fun e=>n6 y e (by simp)
    obtain⟨v1,v2,v3⟩:=s5
    have hnt:=List.nodup_cons.1 n5
    have hf:jU (y::t)=(y:Int)+1:=rfl
    refine⟨?_,?_,v3.congr (fun x hx=> ?_)⟩
    ·rw[g6 y hy,if_neg hyb,hf,if_pos ⟨by omega,by omega⟩,rZ]
    ·rw[g7 y hy,if_neg hyb,if_neg (fun e=>hy1 (hl1 y e))];exact v2
    ·have hxN:=h.lt x (by simp[hx])
     have hxb:=hne x (by simp[hx])
     have hxy:x≠y:=fun e=>hnt.1 (by rw[←e];exact hx)
     rw[g6 x hxN,if_neg hxb,hf,if_neg (by omega),g7 x hxN,if_neg hxb,if_neg (fun e=>n6 x (hl1 x e) (by simp[hx]))]
     exact⟨rfl,rfl⟩
 ·intro x hx
  rw[g0 x hx]
  by_cases e:x=b
  ·rw[if_pos e];exact t1
  ·rw[if_neg e];exact h.tok x hx
 ·intro x hx
  rw[g0 x (h.lt x (hmem x hx)),if_neg (hne x hx)];exact h.hd x (hmem x hx)
 ·intro x hx
  rw[g0 x hx]
  by_cases e:x=b
  ·rw[if_pos e,g1,e]
   exact⟨fun h=>absurd h (by decide),fun h=>absurd rfl (hne b h)⟩
  ·rw[if_neg e,h.mrk x hx];simp[e]
theorem tV(hm:c.May)(hz:zs.length=c.size){x:Nat}(hx:x<c.N):nth (bg c b zs) (adr c x 0)=if x=b then nth zs (adr c b 0)+64 else nth zs (adr c x 0):=by
 have hR:∀(x u r:Nat),r<24→¬adr c x u=r:=fun x u r hr=>dC hr
 rw[show nth (bg c b zs) (adr c x 0)=eU c b zs (adr c x 0) from dK _ (by rw[hz];exact iC hm hx (by omega))]
 unfold eU
 simp[hR,jO hm]
theorem tX(hm:c.May)(hz:zs.length=c.size){x:Nat}(hx:x<c.N):nth (aY c b zs) (adr c x 0)=if x=b then nth zs (adr c b 0)-64 else nth zs (adr c x 0):=by
 have hR:∀(x u r:Nat),r<24→¬adr c x u=r:=fun x u r hr=>dC hr
 rw[show nth (aY c b zs) (adr c x 0)=eX c b zs (adr c x 0) from dK _ (by rw[hz];exact iC hm hx (by omega))]
 unfold eX
 simp[hR,jO hm]
def zC(c:Cf)(l:List Nat)(b i:Nat):Prop:=i≠7∧i≠8∧i≠9∧i≠adr c b 0∧∀x,(x=b∨x∈l)→i≠adr c x 6∧i≠adr c x 7
theorem nW(h:RingAt c zs l)(hz:zs.length=c.size){i:Nat}(hi:zC c l b i):nth (bg c b zs) i=nth zs i:=by
 obtain⟨h7,h8,h9,h0,hx⟩:=hi
 by_cases hlt:i<zs.length
 ·rw[show nth (bg c b zs) i=eU c b zs i from dK _ hlt]
  unfold eU
  rw[if_neg h7,if_neg h8,if_neg h9,if_neg h0,if_neg (hx b (Or.inl rfl)).1,if_neg (hx b (Or.inl rfl)).2,if_neg]
  rintro⟨e1,e2⟩
  rw[h.r8] at e1 e2
  obtain⟨y,hy,he⟩:=gN l (fun e=>e1 (by rw[e];rfl))
  rw[he] at e2
  exact(hx y (Or.inr hy)).2 (by rw[e2];congr 1;omega)
 ·rw[cO (by rw[mR];omega),cO (by omega)]
theorem nX{l1 l2:List Nat}(h:RingAt c zs (l1++b::l2))(hz:zs.length=c.size){i:Nat}(hi:zC c (l1++l2) b i):nth (aY c b zs) i=nth zs i:=by
 obtain⟨h7,h8,h9,h0,hx⟩:=hi
 obtain⟨hp,hq⟩:=h.split
 by_cases hlt:i<zs.length
 ·rw[show nth (aY c b zs) i=eX c b zs i from dK _ hlt]
  unfold eX
  rw[if_neg h7,if_neg h8,if_neg h9,if_neg h0,if_neg (hx b (Or.inl rfl)).1,if_neg (hx b (Or.inl rfl)).2,hp,hq,if_neg,if_neg]
  ·rintro⟨e1,e2⟩
   cases l2 with
   |nil=>exact e1 rfl
   |cons y t=>
    have:jU (y::t)=(y:Int)+1:=rfl
    rw[this] at e2
    exact(hx y (Or.inr (by simp))).1 (by rw[e2];congr 1;omega)
  ·rintro⟨e1,e2⟩
   obtain⟨y,hy,he⟩:=gN l1 (fun e=>e1 (by rw[e];rfl))
   rw[he] at e2
   exact(hx y (Or.inr (by simp[hy]))).2 (by rw[e2];congr 1;omega)
 ·rw[cO (by rw[mU];omega),cO (by omega)]
end
structure bK (c:Cf) (zs:List Int) (l:List Nat):Prop where
 ch:aR c zs 0 l
 fr:∀b,b∈l→nth zs (adr c b 0)=0
def iV(c:Cf)(b i:Nat):Prop:=adr c b 0≤i∧i<adr c b 0+c.W
theorem oH{c:Cf}{b v:Nat}(hv:v<c.W):iV c b (adr c b v):=by unfold iV adr;omega
theorem KN{c:Cf}{b i:Nat}(h:iV c b i):∃v,v<c.W∧i=adr c b v:=⟨i-adr c b 0,by unfold iV at h;omega,by unfold iV at h;unfold adr at *;omega⟩
theorem oI{c:Cf}{b r:Nat}(hr:r<24):¬iV c b r:=by unfold iV adr;omega
theorem iH{c:Cf}{a b v:Nat}(h:a≠b)(hv:v<c.W):¬iV c b (adr c a v):=by
 intro hb
 obtain⟨u,hu,e⟩:=KN hb
 exact h (ax hv hu e).1
theorem gD(c:Cf)(b:Nat):gz c b=adr c b 5:=rfl
instance (c:Cf) (b i:Nat):Decidable (iV c b i):=by unfold iV;infer_instance
def bE(c:Cf)(b:Nat)(zs zs':List Int):Prop:=zs'.length=zs.length∧∀i,¬iV c b i→nth zs' i=nth zs i
theorem bE.refl(c:Cf)(b:Nat)(zs:List Int):bE c b zs zs:=⟨rfl,fun _ _=>rfl⟩
theorem bE.trans{c:Cf}{b:Nat}{x y z:List Int}(h:bE c b x y)(k:bE c b y z):bE c b x z:=⟨k.1.trans h.1,fun i hi=>(k.2 i hi).trans (h.2 i hi)⟩
theorem bE.set{c:Cf}{b v:Nat}{zs:List Int}(hv:v<c.W)(x:Int):bE c b zs (zs.set (adr c b v) x):=
 ⟨by simp,fun i hi=>ai (fun e=>hi (by rw[←e];exact oH hv)) x⟩
theorem aR.only{c:Cf}{zs zs':List Int}{k b:Nat}{l:List Nat}(h:aR c zs k l)(hm:c.May)(hk:k<2)(hb:b∉l)(ho:bE c b zs zs'):aR c zs' k l:=by
 have hw:=hm.w
 refine h.congr (ho.2 _ (oI (by omega))) (ho.2 _ (oI (by omega))) (ho.2 _ (oI (by omega))) (fun x hx=>ho.2 _ ?_)
 rw[gD]
 exact iH (fun e=>hb (by rw[←e];exact hx)) (by omega)
theorem bK.only{c:Cf}{zs zs':List Int}{b:Nat}{l:List Nat}(h:bK c zs l)(hm:c.May)(hb:b∉l)(ho:bE c b zs zs'):bK c zs' l:=by
 have hw:=hm.w
 refine⟨h.ch.only hm (by omega) hb ho,fun x hx=> ?_⟩
 rw[ho.2 _ (iH (fun e=>hb (by rw[←e];exact hx)) (by omega))]
 exact h.fr x hx
def zf(c:Cf)(b:Nat)(zs:List Int)(i:Nat):Int:=if iV c b i then 0 else takeN c 0 b zs i
def bS(c:Cf)(b:Nat)(zs:List Int):List Int:=Lh zs.length (zf c b zs)
def aU(c:Cf)(b:Nat)(zs:List Int):List Int:=nT c 0 b (zs.set (adr c b 0) 0)
theorem eT(c:Cf)(b:Nat)(zs:List Int):(bS c b zs).length=zs.length:=ig _ _
theorem sG(c:Cf)(b:Nat)(zs:List Int):(aU c b zs).length=zs.length:=by unfold aU;rw[qV];simp
def nE(c:Cf)(zs:List Int):Prop:=bK c zs (List.range c.N)∧∀i,¬i<3→(∀b,b<c.N→i≠adr c b 5)→nth zs i=0
section
variable {c:Cf} {zs:List Int} {b:Nat} {l:List Nat}
theorem mq(hz:zs.length=c.size){i:Nat}(hi:i<c.size):nth (bS c b zs) i=if iV c b i then 0 else nth (eO c 0 b zs) i:=by
 rw[show nth (bS c b zs) i=zf c b zs i from dK _ (by omega),show nth (eO c 0 b zs) i=takeN c 0 b zs i from dK _ (by omega)]
 rfl
theorem kP(hz:zs.length=c.size):bE c b (eO c 0 b zs) (bS c b zs):=by
 refine⟨by rw[eT,eu],fun i hi=> ?_⟩
 by_cases h:i<c.size
 ·rw[mq hz h,if_neg hi]
 ·rw[cO (by rw[eT];omega),cO (by rw[eu];omega)]
theorem bK.take(h:bK c zs (b::l))(hm:c.May)(hz:zs.length=c.size):bK c (bS c b zs) l∧∀v,v<c.W→nth (bS c b zs) (adr c b v)=0:=by
 have hb:=h.ch.lt b (by simp)
 have hn:=(List.nodup_cons.1 h.ch.nd).1
 have hw:=hm.w
 obtain⟨h1,_⟩:=h.ch.take hm hz (by omega)
 refine⟨⟨h1.only hm (by omega) hn (kP hz),fun x hx=> ?_⟩,fun v hv=> ?_⟩
 ·have hxb:x≠b:=fun e=>hn (by rw[←e];exact hx)
  have hxN:=h.ch.lt x (by simp[hx])
  rw[(kP hz).2 _ (iH hxb (by omega))]
  rw[show nth (eO c 0 b zs) (adr c x 0)=takeN c 0 b zs (adr c x 0) from dK _ (by rw[hz];exact fu hxN (by omega))]
  unfold takeN
  rw[if_neg (dC (by omega)),if_neg (dC (by omega)),if_neg (dC (by omega)),if_neg (by rw[gD,jO hm (by omega) (by omega)];omega)]
  exact h.fr x (by simp[hx])
 ·rw[mq hz (fu hb hv),if_pos (oH hv)]
theorem Ap(hm:c.May)(hz:zs.length=c.size){i:Nat}(hi:¬iV c b i)(h3:¬i<3):nth (bS c b zs) i=nth zs i:=by
 rw[(kP hz).2 i hi]
 by_cases h:i<c.size
 ·rw[show nth (eO c 0 b zs) i=takeN c 0 b zs i from dK _ (by omega)]
  unfold takeN
  have hw:=hm.w
  rw[if_neg (by omega),if_neg (by omega),if_neg (by omega),if_neg (fun e=>hi (by rw[e,gD];exact oH (by omega)))]
 ·rw[cO (by rw[eu];omega),cO (by omega)]
theorem bK.give(h:bK c zs l)(hm:c.May)(hz:zs.length=c.size)(hb:b<c.N)(hn:b∉l):bK c (aU c b zs) (b::l)∧nth (aU c b zs) (adr c b 0)=0:=by
 have hw:=hm.w
 have h1:=h.only hm hn (bE.set (v:=0) (by omega) 0)
 have hz1:(zs.set (adr c b 0) 0).length=c.size:=by simp[hz]
 have g:∀x,x<c.N→nth (aU c b zs) (adr c x 0)=nth (zs.set (adr c b 0) 0) (adr c x 0):=fun x hx=>by
  unfold aU
  rw[show nth (nT c 0 b (zs.set (adr c b 0) 0)) (adr c x 0)=mQ c 0 b (zs.set (adr c b 0) 0) (adr c x 0) from dK _ (by rw[hz1];exact fu hx (by omega))]
  unfold mQ
  rw[if_neg (dC (by omega)),if_neg (dC (by omega)),if_neg (dC (by omega)),if_neg (by rw[gD,jO hm (by omega) (by omega)];omega)]
 have hb0:nth (aU c b zs) (adr c b 0)=0:=by rw[g b hb,aN (by rw[hz];exact fu hb (by omega))]
 refine⟨⟨h1.ch.push hm hz1 (by omega) hb hn,fun x hx=> ?_⟩,hb0⟩
 rcases List.mem_cons.1 hx with rfl|hx
 ·exact hb0
 ·rw[g x (h.ch.lt x hx)];exact h1.fr x hx
theorem mo(hm:c.May)(hz:zs.length=c.size){i:Nat}(hi:i≠adr c b 0)(h5:i≠adr c b 5)(h3:¬i<3):nth (aU c b zs) i=nth zs i:=by
 unfold aU
 by_cases h:i<c.size
 ·rw[show nth (nT c 0 b (zs.set (adr c b 0) 0)) i=mQ c 0 b (zs.set (adr c b 0) 0) i from dK _ (by simp;omega)]
  unfold mQ
  rw[if_neg (by omega),if_neg (by omega),if_neg (by omega),if_neg (show ¬i=gz c b from h5),ai (fun e=>hi e.symm)]
 ·rw[cO (by rw[qV];simp;omega),cO (by omega)]
end
structure Ob where
 h:Nat
 np:Nat
 nd:Nat
 lv:List Nat
def Ob.f(o:Ob):Nat:=o.np+o.nd
def Ob.leaves(o:Ob):List Nat:=o.lv.filterMap (fun n=>if n=0 then none else some (n-1))
def Ob.blocks(o:Ob):List Nat:=o.h::o.leaves
theorem Ob.bA{o:Ob}{b:Nat}:b∈o.leaves↔b+1∈o.lv:=by
 unfold Ob.leaves
 rw[List.mem_filterMap]
 constructor
 ·rintro⟨n,hn,he⟩
  by_cases h:n=0
  ·simp[h] at he
  ·simp[h] at he
   have:n=b+1:=by omega
   rw[←this];exact hn
 ·intro h
  exact⟨b+1,h,by simp⟩
def bi(c:Cf)(o:Ob)(i:Nat):Option (Nat × Nat):=
 if o.f≤c.W-8 then some (o.h,8+i) else match o.lv[i/(c.W-1)]? with
  |some (b+1)=>some (b,1+i%(c.W-1))
  |_=>none
def aS(c:Cf)(o:Ob)(i:Nat):Option Nat:=(bi c o i).map (fun p=>adr c p.1 p.2)
def fK(c:Cf)(zs:List Int)(o:Ob)(i:Nat):Int:=match aS c o i with|some a=>nth zs a|none=>0
structure iU (c:Cf) (zs:List Int) (o:Ob):Prop where
 hlt:o.h<c.N
 llt:∀b,b+1∈o.lv→b<c.N
 w1:nth zs (adr c o.h 1)=(o.np:Int)
 w2:nth zs (adr c o.h 2)=(o.nd:Int)
 size:(o.f:Int)≤fieldsI c.W
 lvs:(o.lv.length:Int)=cB c.W o.f
 tok:dB (nth zs (adr c o.h 0))
 kind:uK (nth zs (adr c o.h 0))=if o.f≤c.W-8 then 1 else 2
 own:∀j,(hj:j<o.lv.length)→nth zs (adr c o.h (8+j))=(o.lv[j]:Int)
 leaf:∀b,b+1∈o.lv→nth zs (adr c b 0)=3+256*(o.h:Int)
structure ah (c:Cf) (zs:List Int) (pool:List Nat) (os:List Ob):Prop where
 pl:bK c zs pool
 obs:∀o,o∈os→iU c zs o
 perm:(pool++os.flatMap Ob.blocks).Perm (List.range c.N)
section
variable {c:Cf} {zs zs':List Int} {o:Ob} {pool:List Nat} {os:List Ob}
theorem iU.head(h:iU c zs o):bF (nth zs (adr c o.h 0)):=by
 unfold bF
 rw[h.kind]
 split<;>simp
theorem iU.small(h:iU c zs o)(hs:o.f≤c.W-8)(hm:c.May):o.lv=[]:=by
 have hw:=hm.w
 have:=h.lvs
 rw[jA (by omega)] at this
 exact List.length_eq_zero_iff.1 (by omega)
theorem iU.KW(h:iU c zs o)(hm:c.May):o.lv.length≤c.W-8:=by
 have hw:=hm.w
 have:=h.lvs
 have:=lg (W:=c.W) (n:=o.f) (by omega) (by omega) h.size
 omega
theorem iU.place(h:iU c zs o)(hm:c.May)(hs:¬o.f≤c.W-8){i:Nat}(hi:i<o.f):i/(c.W-1)<o.lv.length:=by
 have hw:=hm.w
 have hl:=h.lvs
 obtain⟨_,_,h3,_⟩:=ma (W:=c.W) (n:=o.f) (by omega) (by omega) (by omega) h.size
 rw[←hl] at h3
 have h4:o.f≤o.lv.length*(c.W-1):=by
  have:((o.lv.length*(c.W-1):Nat):Int)=(o.lv.length:Int)*((c.W:Int)-1):=by rw[Int.natCast_mul];congr 1;omega
  omega
 exact(Nat.div_lt_iff_lt_mul (by omega)).2 (by omega)
theorem iE(hs:o.f≤c.W-8)(i:Nat):bi c o i=some (o.h,8+i):=by unfold bi;rw[if_pos hs]
theorem iY(hs:¬o.f≤c.W-8){i b:Nat}(hl:o.lv[i/(c.W-1)]? =some (b+1)):bi c o i=some (b,1+i%(c.W-1)):=by unfold bi;rw[if_neg hs,hl]
theorem Cb(hs:¬o.f≤c.W-8){i:Nat}(hl:o.lv[i/(c.W-1)]? =some 0):bi c o i=none:=by unfold bi;rw[if_neg hs,hl]
theorem fw{i:Nat}{p:Nat × Nat}(h:bi c o i=some p):p.1∈o.blocks:=by
 unfold bi at h
 split at h
 ·cases h;unfold Ob.blocks;simp
 ·split at h
  ·rename_i b hb
   cases h
   unfold Ob.blocks
   exact List.mem_cons_of_mem _ (Ob.bA.2 (List.mem_of_getElem? hb))
  ·cases h
theorem fA(hm:c.May){i:Nat}(hi:i<o.f){p:Nat × Nat}(h:bi c o i=some p):1≤p.2∧p.2<c.W∧(p.1=o.h→o.f≤c.W-8→8≤p.2):=by
 have hw:=hm.w
 unfold bi at h
 split at h
 ·rename_i hs
  cases h
  exact⟨by show 1≤8+i;omega,by show 8+i<c.W;omega,fun _ _=>by show 8≤8+i;omega⟩
 ·rename_i hs
  split at h
  ·cases h
   have:=Nat.mod_lt i (show 0<c.W-1 by omega)
   exact⟨by show 1≤1+i%(c.W-1);omega,by show 1+i%(c.W-1)<c.W;omega,fun _ h=>absurd h hs⟩
  ·cases h
theorem ah.nodup(h:ah c zs pool os):(pool++os.flatMap Ob.blocks).Nodup:=h.perm.nodup_iff.2 List.nodup_range
theorem ah.nodupB(h:ah c zs pool os):(os.flatMap Ob.blocks).Nodup:=(List.nodup_append.1 h.nodup).2.1
theorem Ck:∀{os:List Ob} {o o':Ob} {b:Nat},(os.flatMap Ob.blocks).Nodup→o∈os→o'∈os→b∈o.blocks→b∈o'.blocks→o=o'
 |x::t,o,o',b,hn,ho,ho',hb,hb'=>by
  rw[List.flatMap_cons,List.nodup_append] at hn
  obtain⟨n1,n2,n3⟩:=hn
  rcases List.mem_cons.1 ho with e1|m1
  ·rcases List.mem_cons.1 ho' with e2|m2
   ·rw[e1,e2]
   ·exact absurd rfl (n3 b (by rw[←e1];exact hb) b (List.mem_flatMap.2 ⟨o',m2,hb'⟩))
  ·rcases List.mem_cons.1 ho' with e2|m2
   ·exact absurd rfl (n3 b (by rw[←e2];exact hb') b (List.mem_flatMap.2 ⟨o,m1,hb⟩))
   ·exact Ck n2 m1 m2 hb hb'
theorem yH:∀{os:List Ob} {o:Ob},(os.flatMap Ob.blocks).Nodup→o∈os→o.blocks.Nodup
 |x::t,o,hn,ho=>by
  rw[List.flatMap_cons,List.nodup_append] at hn
  rcases List.mem_cons.1 ho with rfl|ho
  ·exact hn.1
  ·exact yH hn.2.1 ho
theorem ah.own(h:ah c zs pool os){o o':Ob}{b:Nat}(ho:o∈os)(ho':o'∈os)(hb:b∈o.blocks)(hb':b∈o'.blocks):o=o':=Ck h.nodupB ho ho' hb hb'
theorem ah.ownB(h:ah c zs pool os){o:Ob}(ho:o∈os):o.blocks.Nodup:=yH h.nodupB ho
theorem ah.kH(h:ah c zs pool os){o:Ob}{b:Nat}(ho:o∈os)(hb:b∈o.blocks):b∉pool:=fun hp=>
 (List.nodup_append.1 h.nodup).2.2 b hp b (List.mem_flatMap.2 ⟨o,ho,hb⟩) rfl
theorem ah.all(h:ah c zs pool os){b:Nat}(hb:b<c.N):b∈pool∨∃o,o∈os∧b∈o.blocks:=by
 have:b∈pool++os.flatMap Ob.blocks:=h.perm.mem_iff.2 (List.mem_range.2 hb)
 rcases List.mem_append.1 this with h1|h1
 ·exact .inl h1
 ·exact .inr (List.mem_flatMap.1 h1)
theorem ah.lt(h:ah c zs pool os){o:Ob}{b:Nat}(ho:o∈os)(hb:b∈o.blocks):b<c.N:=
 List.mem_range.1 (h.perm.mem_iff.1 (List.mem_append_right _ (List.mem_flatMap.2 ⟨o,ho,hb⟩)))
theorem rX{lv:List Nat}(h:(lv.filterMap (fun n=>if n=0 then none else some (n-1))).Nodup){j k b:Nat}(hj:lv[j]? =some (b+1))(hk:lv[k]? =some (b+1)):j=k:=by
 induction lv generalizing j k with
 |nil=>simp at hj
 |cons x t ih=>
  have hmem:∀{i:Nat},t[i]? =some (b+1)→b∈t.filterMap (fun n=>if n=0 then none else some (n-1)):=fun hi=>List.mem_filterMap.2 ⟨b+1,List.mem_of_getElem? hi,by simp⟩
  rw[List.filterMap_cons] at h
  cases j with
  |zero=>
   cases k with
   |zero=>rfl
   |succ k=>
    simp at hj hk
    subst hj
    simp at h
    exact absurd (hmem hk) (by simpa using h.1)
  |succ j=>
   cases k with
   |zero=>
    simp at hj hk
    subst hk
    simp at h
    exact absurd (hmem hj) (by simpa using h.1)
   |succ k=>
    simp at hj hk
    have h2:(t.filterMap (fun n=>if n=0 then none else some (n-1))).Nodup:=by
     by_cases e:x=0
     ·simp[e] at h;exact h
     ·simp[e] at h;exact h.2
    rw[ih h2 hj hk]
theorem ah.Iq(h:ah c zs pool os)(hm:c.May){o o':Ob}(ho:o∈os)(ho':o'∈os){i i' a:Nat}(hi:i<o.f)(hi':i'<o'.f)(h1:aS c o i=some a)(h2:aS c o' i'=some a):o=o'∧i=i':=by
 have hw:=hm.w
 unfold aS at h1 h2
 cases hp:bi c o i with
 |none=>rw[hp] at h1;cases h1
 |some p=>
  cases hq:bi c o' i' with
  |none=>rw[hq] at h2;cases h2
  |some q=>
   rw[hp] at h1
   rw[hq] at h2
   have e:adr c p.1 p.2=adr c q.1 q.2:=by simp at h1 h2;rw[h1,h2]
   obtain⟨e1,e2⟩:=ax (fA hm hi hp).2.1 (fA hm hi' hq).2.1 e
   obtain rfl:=h.own ho ho' (fw hp) (by rw[e1];exact fw hq)
   refine⟨rfl,?_⟩
   unfold bi at hp hq
   by_cases hs:o.f≤c.W-8
   ·rw[if_pos hs] at hp hq
    cases hp;cases hq
    simp at e2
    exact e2
   ·rw[if_neg hs] at hp hq
    split at hp
    ·rename_i b hb
     cases hp
     split at hq
     ·rename_i b' hb'
      cases hq
      simp at e1 e2
      subst e1
      have hl:o.leaves.Nodup:=(List.nodup_cons.1 (h.ownB ho)).2
      have e3:=rX hl hb hb'
      have d1:=Nat.div_add_mod i (c.W-1)
      have d2:=Nat.div_add_mod i' (c.W-1)
      rw[e3,e2] at d1
      omega
     ·cases hq
    ·cases hp
theorem iU.congr(h:iU c zs o)(h0:dB (nth zs' (adr c o.h 0))∧uK (nth zs' (adr c o.h 0))=uK (nth zs (adr c o.h 0)))(h1:nth zs' (adr c o.h 1)=nth zs (adr c o.h 1))(h2:nth zs' (adr c o.h 2)=nth zs (adr c o.h 2))
  (h3:∀j,j<o.lv.length→nth zs' (adr c o.h (8+j))=nth zs (adr c o.h (8+j))) (h4:∀b,b+1∈o.lv→nth zs' (adr c b 0)=nth zs (adr c b 0)):iU c zs' o:=
 ⟨h.hlt,h.llt,by rw[h1];exact h.w1,by rw[h2];exact h.w2,h.size,h.lvs,h0.1,by rw[h0.2];exact h.kind,fun j hj=>by rw[h3 j hj];exact h.own j hj,fun b hb=>by rw[h4 b hb];exact h.leaf b hb⟩
theorem ah.LX(h:ah c zs pool os)(hm:c.May)(hz:zs.length=c.size)(ho:o∈os){i a:Nat}(hi:i<o.f)(ha:aS c o i=some a)(x:Int):
  ah c (zs.set a x) pool os∧∀o' i',o'∈os→i'<o'.f→fK c (zs.set a x) o' i'=if o'.h=o.h∧i'=i then x else fK c zs o' i':=by
 have hw:=hm.w
 have hA:=h.obs o ho
 cases hp:bi c o i with
 |none=>unfold aS at ha;rw[hp] at ha;cases ha
 |some p=>
  have ea:a=adr c p.1 p.2:=by unfold aS at ha;rw[hp] at ha;simp at ha;exact ha.symm
  obtain⟨q1,q2,q3⟩:=fA hm hi hp
  have hpm:=fw hp
  have hpN:=h.lt ho hpm
  have hlt:a<zs.length:=by rw[hz,ea];exact fu hpN q2
  have hne:∀b v,v<c.W→(b≠p.1∨v≠p.2)→nth (zs.set a x) (adr c b v)=nth zs (adr c b v):=fun b v hv hn=>by
   rw[ai]
   intro e
   rw[ea] at e
   have:=ax q2 hv e
   rcases hn with hn|hn
   ·exact hn this.1.symm
   ·exact hn this.2.symm
  have hO:bE c p.1 zs (zs.set a x):=by rw[ea];exact bE.set q2 x
  refine⟨⟨h.pl.only hm (h.kH ho hpm) hO,fun o' ho'=> ?_,h.perm⟩,fun o' i' ho' hi'=> ?_⟩
  ·have hA':=h.obs o' ho'
   have hnh:∀v,v<8∨(¬o'.f≤c.W-8)→(o'.h≠p.1∨v≠p.2):=fun v hv=>by
    by_cases e:o'.h=p.1
    ·have:o=o':=h.own ho ho' hpm (by rw[←e];unfold Ob.blocks;simp)
     subst this
     by_cases hs:o.f≤c.W-8
     ·have:=q3 e.symm hs
      rcases hv with hv|hv
      ·exact .inr (by omega)
      ·exact absurd hs hv
     ·exfalso
      unfold bi at hp
      rw[if_neg hs] at hp
      split at hp
      ·rename_i b hb
       cases hp
       exact(List.nodup_cons.1 (h.ownB ho)).1 (by rw[e];exact Ob.bA.2 (List.mem_of_getElem? hb))
      ·cases hp
    ·exact .inl e
   refine hA'.congr ?_ ?_ ?_ (fun j hj=> ?_) (fun b hb=> ?_)
   ·rw[hne _ 0 (by omega) (hnh 0 (by omega))];exact⟨hA'.tok,rfl⟩
   ·exact hne _ 1 (by omega) (hnh 1 (by omega))
   ·exact hne _ 2 (by omega) (hnh 2 (by omega))
   ·have hl:=hA'.KW hm
    have hs:¬o'.f≤c.W-8:=fun hs=>by rw[hA'.small hs hm] at hj;simp at hj
    exact hne _ (8+j) (by omega) (hnh (8+j) (.inr hs))
   ·exact hne _ 0 (by omega) (.inr (by omega))
  ·unfold fK
   cases hf:aS c o' i' with
   |none=>
    by_cases e:o'.h=o.h∧i'=i
    ·have:o'=o:=h.own ho' ho (b:=o'.h) (by unfold Ob.blocks;simp) (by rw[e.1];unfold Ob.blocks;simp)
     rw[this,e.2,ha] at hf
     cases hf
    ·rw[if_neg e]
   |some a'=>
    by_cases e:o'.h=o.h∧i'=i
    ·have e2:o'=o:=h.own ho' ho (b:=o'.h) (by unfold Ob.blocks;simp) (by rw[e.1];unfold Ob.blocks;simp)
     rw[e2,e.2,ha] at hf
     cases hf
     rw[if_pos e]
     exact aN hlt x
    ·rw[if_neg e]
     refine ai (fun e3=>e ?_) x
     have:=h.Iq hm ho' ho hi' hi hf (by rw[ha,e3])
     exact⟨by rw[this.1],this.2⟩
end
end Go.Proofs.YtjmifnljckmimaaGreat.Pk
