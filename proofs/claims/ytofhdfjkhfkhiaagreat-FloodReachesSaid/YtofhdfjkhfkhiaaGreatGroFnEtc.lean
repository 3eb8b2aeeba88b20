/-
  Texts laid together: GroFn, ChainMath, Acts, RingMath, PoolMath, TagI.
-/
import Derived.Test.YtofhdfjkhfkhiaaGreatStoFnEtc
import Derived.Test.YtofhdfjkhfkhiaaGreatBaseEtc
import Derived.Test.YtofhdfjkhfkhiaaGreatPlanFnEtc
import Derived.BigQuiet
import Derived.IntWalk
import Derived.LoopTactic
namespace Go.Proofs.YtofhdfjkhfkhiaaGreat.Pk
open Lib (hid)
open Go.RowKit
set_option linter.unusedVariables false
set_option linter.unusedSimpArgs false
theorem ko{a b:Int}(h:a≠b):(a==b)=false:=by rw[beq_eq_false_iff_ne];exact h
structure Cf where
 N:Nat
 W:Nat
 R:Nat
 K:Nat
def Cf.May(c:Cf):Prop:=Pk.May (c.N:Int) (c.W:Int) (c.R:Int) (c.K:Int)
def Cf.size(c:Cf):Nat:=24+c.R+c.N*c.W
def Cf.val(c:Cf):Value:=.agg #[.int .i64 (c.N:Int),.int .i64 (c.W:Int),.int .i64 (c.R:Int),.int .i64 (c.K:Int)]
theorem Cf.May.nw{c:Cf}(h:c.May):16≤c.N*c.W∧c.N*c.W≤4194304:=by
 obtain⟨h1,h2⟩:=DC h
 have e:((c.N*c.W:Nat):Int)=(c.N:Int)*(c.W:Int):=Int.natCast_mul _ _
 omega
theorem Cf.May.n{c:Cf}(h:c.May):1≤c.N∧c.N≤1048576:=by have:=h.n0;have:=h.n1;omega
theorem Cf.May.w{c:Cf}(h:c.May):16≤c.W∧c.W≤256:=by have:=h.w0;have:=h.w1;omega
theorem Cf.May.r{c:Cf}(h:c.May):1≤c.R∧c.R≤4096:=by have:=h.r0;have:=h.r1;omega
theorem Cf.May.k{c:Cf}(h:c.May):1≤c.K∧c.K≤65536:=by have:=h.k0;have:=h.k1;omega
theorem Cf.May.size{c:Cf}(h:c.May):41≤c.size∧c.size≤4198424:=by
 have:=h.nw;have:=h.r;unfold Cf.size;omega
structure Pl where
 a:Nat
 s:Nat
 g:Nat
structure St where
 zs:List Int
 m:Nat
def Bp(zs:List Int):Prop:=∀k,0≤nth zs k∧nth zs k≤4294967295
theorem av{zs:List Int}{k:Nat}(hk:k<zs.length)(v:Int):nth (zs.set k v) k=v:=by unfold nth;simp[List.getD,hk]
theorem aa{zs:List Int}{k j:Nat}(h:k≠j)(v:Int):nth (zs.set k v) j=nth zs j:=by unfold nth;simp[List.getD,h]
theorem aY{zs:List Int}{k:Nat}(hk:zs.length≤k):nth zs k=0:=by unfold nth;simp[List.getD,hk]
theorem jr(q k:Nat):nth (List.replicate q 0) k=0:=by
 unfold nth
 rw[List.getD_eq_getElem?_getD,List.getElem?_replicate]
 split<;>rfl
theorem Bp.set{zs:List Int}(h:Bp zs)(k:Nat){v:Int}(h0:0≤v)(h1:v≤4294967295):Bp (zs.set k v):=by
 intro j
 by_cases e:k=j
 ·subst e
  by_cases hk:k<zs.length
  ·rw[av hk];exact⟨h0,h1⟩
  ·rw[aY (by simp;omega)];omega
 ·rw[aa e];exact h j
theorem Bp.rep(q:Nat):Bp (List.replicate q 0):=fun k=>by rw[jr];omega
structure jC (tg ts e:TypeId) (w:World) (p:Pl) (c:Cf) (s:St):Prop where
 head:Blk w p.a #[.pointer (some ⟨p.s,0,none⟩),.int .i64 (c.N:Int),.int .i64 (c.W:Int),.int .i64 (c.R:Int),.int .i64 (c.K:Int)] tg
 st:lg w ts e p.s p.g s.zs (u64m s.m)
 len:s.zs.length=c.size
 as_:p.a≠p.s
 ag:p.a≠p.g
 may:c.May
 wf:Bp s.zs
def inG(p:Pl):Nat→Prop:=Dr p.s p.g
def ofG(p:Pl):Nat→Prop:=fun k=>k=p.a∨Dr p.s p.g k
theorem jC.touch{tg ts e:TypeId}{X:Nat→Prop}{w w':World}{p:Pl}{c:Cf}{s:St}(h:jC tg ts e w p c s)(k:Touch X w w')(hX:∀b,ofG p b→¬X b):jC tg ts e w' p c s:=
 ⟨h.head.touch k (hX _ (.inl rfl)),h.st.touch k (hX _ (.inr (.inl rfl))) (hX _ (.inr (.inr rfl))),h.len,h.as_,h.ag,h.may,h.wf⟩
theorem jC.later{tg ts e:TypeId}{w w':World}{p:Pl}{c:Cf}{s:St}(h:jC tg ts e w p c s)(k:Below w.heap.size w w'):jC tg ts e w' p c s:=
 ⟨h.head.later k,h.st.later k,h.len,h.as_,h.ag,h.may,h.wf⟩
theorem jC.drew{tg ts e:TypeId}{w:World}{p:Pl}{c:Cf}{s:St}(h:jC tg ts e w p c s):jC tg ts e w.drew p c s:=⟨h.head.drew,h.st.drew,h.len,h.as_,h.ag,h.may,h.wf⟩
theorem jC.alloc{tg ts e:TypeId}{w:World}{p:Pl}{c:Cf}{s:St}(h:jC tg ts e w p c s)(o:Obj):jC tg ts e (w.alloc o) p c s:=⟨h.head.alloc o,h.st.alloc o,h.len,h.as_,h.ag,h.may,h.wf⟩
theorem jC.drw{tg ts e:TypeId}{w w':World}{p:Pl}{c:Cf}{s:St}(h:jC tg ts e w p c s)(k:Drw w w'):jC tg ts e w' p c s:=h.later k.new
theorem jC.ptr{tg ts e:TypeId}{w:World}{p:Pl}{c:Cf}{s:St}(h:jC tg ts e w p c s):w.cell? ⟨p.a,0,none⟩=some (.pointer (some ⟨p.s,0,none⟩)):=h.head.cell 0 rfl
theorem jC.cN{tg ts e:TypeId}{w:World}{p:Pl}{c:Cf}{s:St}(h:jC tg ts e w p c s):w.cell? ⟨p.a,1,none⟩=some (.int .i64 (c.N:Int)):=h.head.cell 1 rfl
theorem jC.cW{tg ts e:TypeId}{w:World}{p:Pl}{c:Cf}{s:St}(h:jC tg ts e w p c s):w.cell? ⟨p.a,2,none⟩=some (.int .i64 (c.W:Int)):=h.head.cell 2 rfl
theorem jC.cR{tg ts e:TypeId}{w:World}{p:Pl}{c:Cf}{s:St}(h:jC tg ts e w p c s):w.cell? ⟨p.a,3,none⟩=some (.int .i64 (c.R:Int)):=h.head.cell 3 rfl
theorem jC.cK{tg ts e:TypeId}{w:World}{p:Pl}{c:Cf}{s:St}(h:jC tg ts e w p c s):w.cell? ⟨p.a,4,none⟩=some (.int .i64 (c.K:Int)):=h.head.cell 4 rfl
theorem jC.step{tg ts e:TypeId}{w w':World}{p:Pl}{c:Cf}{s s':St}(h:jC tg ts e w p c s)(hS:lg w' ts e p.s p.g s'.zs (u64m s'.m))(k:Touch (inG p) w w')(hl:s'.zs.length=s.zs.length)(hw:Bp s'.zs):jC tg ts e w' p c s':=
 ⟨h.head.touch k (by have:=h.as_;have:=h.ag;unfold inG Dr;omega),hS,hl.trans h.len,h.as_,h.ag,h.may,hw⟩
def St.got(s:St):St:=⟨s.zs,s.m+1⟩
def St.set(s:St)(k:Nat)(v:Int):St:=⟨s.zs.set k v,s.m+1⟩
theorem St.rG(s:St)(k:Nat)(v:Int):(s.set k v).zs.length=s.zs.length:=by simp[St.set]
def iM(n:Int)(b:Nat):Bool:=decide (0≤n∧n<(b:Int))
theorem jm{n:Int}{b:Nat}(h:iM n b=true):∃k:Nat,n=(k:Int)∧k<b:=by
 unfold iM at h
 have:=of_decide_eq_true h
 exact⟨n.toNat,by omega,by omega⟩
theorem gP{k b:Nat}(h:k<b):iM (k:Int) b=true:=by unfold iM;exact decide_eq_true (by omega)
theorem Lt{n:Int}{b:Nat}(h:iM n b=false):n<0∨(b:Int)≤n:=by
 unfold iM at h
 have:=of_decide_eq_false h
 omega
def nA(r:Int):Option Nat:=if iM r 24 then some r.toNat else none
def ak(c:Cf)(b w:Int):Option Nat:=if iM b c.N&&iM w c.W then some (24+c.R+b.toNat*c.W+w.toNat) else none
theorem jW{c:Cf}{b w:Nat}(hb:b<c.N)(hw:w<c.W):24+c.R+b*c.W+w<c.size:=by
 have h:(b+1)*c.W≤c.N*c.W:=Nat.mul_le_mul_right _ hb
 rw[Nat.add_mul,Nat.one_mul] at h
 unfold Cf.size
 omega
theorem DJ{c:Cf}{r:Int}{k:Nat}(h:nA r=some k):k<c.size:=by
 unfold nA at h
 split at h
 ·rename_i hb
  obtain⟨j,rfl,hj⟩:=jm hb
  cases h
  unfold Cf.size
  omega
 ·cases h
theorem uF{c:Cf}{b w:Int}{k:Nat}(h:ak c b w=some k):k<c.size:=by
 unfold ak at h
 split at h
 ·rename_i hb
  rw[Bool.and_eq_true] at hb
  obtain⟨j,rfl,hj⟩:=jm hb.1
  obtain⟨i,rfl,hi⟩:=jm hb.2
  cases h
  exact jW hj hi
 ·cases h
def St.at?(s:St)(k:Option Nat):Int:=match k with|some k=>nth s.zs k|none=>0
def St.ask(s:St)(k:Option Nat):St:=match k with|some _=>s.got|none=>s
def St.put(s:St)(k:Option Nat)(v:Int):St:=match k with|some k=>s.set k v|none=>s
def nN(v:Int):Bool:=decide (0≤v∧v≤4294967295)
def St.zZ(s:St)(k:Option Nat)(v:Int):St:=if nN v then s.put k v else s
def Ik(k:Option Nat)(v:Int):Bool:=k.isSome&&nN v
theorem St.at?_wf{s:St}(h:Bp s.zs)(k:Option Nat):0≤s.at? k∧s.at? k≤4294967295:=by
 cases k with
 |none=>show(0:Int)≤0∧(0:Int)≤4294967295;decide
 |some k=>exact h k
theorem Ep{v:Int}(h:nN v=true):0≤v∧v≤4294967295:=of_decide_eq_true h
theorem zf{v:Int}(h0:0≤v)(h1:v≤4294967295):nN v=true:=decide_eq_true ⟨h0,h1⟩
def FH(tg ts e:TypeId)(w:World)(p:Pl)(c:Cf)(s:St)(v:Value)(en:Ending)(w':World):Prop:=
 en=.returned v∧jC tg ts e w' p c s∧Touch (inG p) w w'
abbrev G:=jC 92 161 126
abbrev GP:=FH 92 161 126
theorem vM(n b:Int)(w:World):Calls Tryz.prog 157 #[.int .i64 n,.int .i64 b] w fun e w'=>e=.returned (.bool (decide (0≤n∧n<b)))∧w=w':=by
 by_cases h:0≤n
 ·go_enter Tryz.func157,Tryz.ntmps157
  go_wp2
  go_ret
  exact⟨az (by simp[h]),rfl⟩
 ·have h':n<0:=by omega
  go_enter Tryz.func157,Tryz.ntmps157
  go_wp2
  go_ret
  exact⟨az (by simp;omega),rfl⟩
theorem iV(n:Int)(b:Nat)(w:World):Calls Tryz.prog 157 #[.int .i64 n,.int .i64 (b:Int)] w fun e w'=>e=.returned (.bool (iM n b))∧w=w':=vM n b w
theorem rP(n:Int)(w:World):Calls Tryz.prog 157 #[.int .i64 n,.int .i64 24] w fun e w'=>e=.returned (.bool (iM n 24))∧w=w':=vM n 24 w
theorem sF(n:Int)(w:World):Calls Tryz.prog 96 #[.int .i64 n] w fun e w'=>e=.returned (.bool (nN n))∧w=w':=by
 by_cases h:0≤n
 ·go_enter Tryz.func96,Tryz.ntmps96
  go_wp2
  go_ret
  exact⟨az (by unfold nN;simp[h]),rfl⟩
 ·have h':n<0:=by omega
  go_enter Tryz.func96,Tryz.ntmps96
  go_wp2
  go_ret
  exact⟨az (by unfold nN;simp;omega),rfl⟩
theorem Jz{P:Program}{f:FuncId}{args:Array Value}{w:World}{a b:Bool}(h:Calls P f args w fun e w'=>e=.returned (.bool a)∧w=w')(hab:a=b):
  Calls P f args w fun e w'=>e=.returned (.bool b)∧w=w':=hab▸h
theorem Ee{P:Program}{f:FuncId}{args:Array Value}{w:World}{a b:Value}{Q:World→Prop}(h:Calls P f args w fun e w'=>e=.returned a∧Q w')(hab:a=b):
  Calls P f args w fun e w'=>e=.returned b∧Q w':=hab▸h
def La(k:Option Nat):Value:=match k with|some k=>.tuple #[.int .i64 (k:Int),.bool true]|none=>.tuple #[.int .i64 0,.bool false]
theorem iU{o:Option Nat}{k:Nat}(h:o=some k):La o=.tuple #[.int .i64 (k:Int),.bool true]:=by rw[h];rfl
theorem jG{o:Option Nat}(h:o=none):La o=.tuple #[.int .i64 0,.bool false]:=by rw[h];rfl
theorem jR(p:Pl)(c:Cf)(s:St)(r:Int)(w:World)(hG:G w p c s):
  Calls Tryz.prog 95 #[.pointer (some ⟨p.a,0,none⟩),.int .i64 r] w fun e w'=>e=.returned (La (nA r))∧w=w':=by
 clear hG
 by_cases h:iM r 24=true
 ·obtain⟨k,rfl,hk⟩:=jm h
  have e1:nA (k:Int)=some k:=by unfold nA;rw[if_pos h];simp
  rw[e1]
  clear e1
  go_enter Tryz.func95,Tryz.ntmps95
  go_wp2_with fail
  refine(Jz (rP _ _) h).mono ?_
  rintro e w1 ⟨rfl,rfl⟩
  go_wp2_with fail
  go_ret2
  exact⟨rfl,rfl⟩
 ·have h':iM r 24=false:=by simpa using h
  have e1:nA r=none:=by unfold nA;rw[if_neg h]
  rw[e1]
  clear e1
  go_enter Tryz.func95,Tryz.ntmps95
  go_wp2_with fail
  refine(Jz (rP _ _) h').mono ?_
  rintro e w1 ⟨rfl,rfl⟩
  go_wp2_with fail
  go_ret2
  exact⟨rfl,rfl⟩
theorem CW(p:Pl)(c:Cf)(s:St)(b v:Nat)(w:World)(hG:G w p c s)(hb:b<c.N)(hv:v<c.W):
  Calls Tryz.prog 114 #[.pointer (some ⟨p.a,0,none⟩),.int .i64 (b:Int),.int .i64 (v:Int)] w fun e w'=>e=.returned (La (some (24+c.R+b*c.W+v)))∧Drw w w':=by
 have cN:=hG.cN
 have cW:=hG.cW
 have cR:=hG.cR
 have hR:=hG.may.r
 have hW:=hG.may.w
 have hN:=hG.may.n
 have hsz:=hG.may.size
 have hlt:=jW hb hv
 have e0:((b*c.W:Nat):Int)=(b:Int)*(c.W:Int):=Int.natCast_mul _ _
 have hbw:0≤(b:Int)*(c.W:Int)∧(b:Int)*(c.W:Int)≤4198424:=by omega
 clear hG
 have w1:IntKind.i64.wrap (24+(c.R:Int))=24+(c.R:Int):=IntWalk.i64_in _ (by omega)
 have w2:IntKind.i64.wrap ((b:Int)*(c.W:Int))=(b:Int)*(c.W:Int):=by
  generalize (b:Int)*(c.W:Int)=x at hbw ⊢
  exact IntWalk.i64_in _ (by omega)
 have w3:IntKind.i64.wrap (24+(c.R:Int)+(b:Int)*(c.W:Int))=24+(c.R:Int)+(b:Int)*(c.W:Int):=by
  generalize (b:Int)*(c.W:Int)=x at hbw ⊢
  exact IntWalk.i64_in _ (by omega)
 have w4:IntKind.i64.wrap (24+(c.R:Int)+(b:Int)*(c.W:Int)+(v:Int))=24+(c.R:Int)+(b:Int)*(c.W:Int)+(v:Int):=by
  generalize (b:Int)*(c.W:Int)=x at hbw ⊢
  exact IntWalk.i64_in _ (by omega)
 have hB:=hid (gP hb)
 have hV:=hid (gP hv)
 have E0:=hid e0
 clear hb hv e0 hlt hsz
 go_enter Tryz.func114,Tryz.ntmps114
 go_wp2_with fail
 refine(Jz (iV _ _ _) hB.out).mono ?_
 rintro e w1 ⟨rfl,rfl⟩
 go_wp2_with fail
 refine(Jz (iV _ _ _) hV.out).mono ?_
 rintro e w1 ⟨rfl,rfl⟩
 go_wp2_with fail
 go_quiet (fail)
 go_wp2_with fail
 go_ret2
 exact⟨by have:=E0.out;simp[La],Drw.refl _ |>.step _⟩
theorem CU(p:Pl)(c:Cf)(s:St)(b v:Int)(w:World)(hG:G w p c s)(hb:iM b c.N=false):
  Calls Tryz.prog 114 #[.pointer (some ⟨p.a,0,none⟩),.int .i64 b,.int .i64 v] w fun e w'=>e=.returned (La none)∧Drw w w':=by
 have cN:=hG.cN
 have cW:=hG.cW
 have hB:=hid hb
 clear hG hb
 go_enter Tryz.func114,Tryz.ntmps114
 go_wp2_with fail
 refine(Jz (iV _ _ _) hB.out).mono ?_
 rintro e w1 ⟨rfl,rfl⟩
 go_wp2_with fail
 go_ret2
 exact⟨rfl,Drw.refl _⟩
theorem CV(p:Pl)(c:Cf)(s:St)(b v:Int)(w:World)(hG:G w p c s)(hA0:iM b c.N=true)(hb:iM v c.W=false):
  Calls Tryz.prog 114 #[.pointer (some ⟨p.a,0,none⟩),.int .i64 b,.int .i64 v] w fun e w'=>e=.returned (La none)∧Drw w w':=by
 have cN:=hG.cN
 have cW:=hG.cW
 have hB:=hid hb
 have hA:=hid hA0
 clear hA0
 clear hG hb
 go_enter Tryz.func114,Tryz.ntmps114
 go_wp2_with fail
 refine(Jz (iV _ _ _) hA.out).mono ?_
 rintro e w1 ⟨rfl,rfl⟩
 go_wp2_with fail
 refine(Jz (iV _ _ _) hB.out).mono ?_
 rintro e w1 ⟨rfl,rfl⟩
 go_wp2_with fail
 go_ret2
 exact⟨rfl,Drw.refl _⟩
theorem eT(p:Pl)(c:Cf)(s:St)(b v:Int)(w:World)(hG:G w p c s):
  Calls Tryz.prog 114 #[.pointer (some ⟨p.a,0,none⟩),.int .i64 b,.int .i64 v] w fun e w'=>e=.returned (La (ak c b v))∧Drw w w':=by
 by_cases h1:iM b c.N=true
 ·by_cases h2:iM v c.W=true
  ·obtain⟨i,rfl,hi⟩:=jm h1
   obtain⟨j,rfl,hj⟩:=jm h2
   have e:ak c (i:Int) (j:Int)=some (24+c.R+i*c.W+j):=by unfold ak;rw[h1,h2];simp
   rw[e]
   exact CW p c s i j w hG hi hj
  ·have e:ak c b v=none:=by unfold ak;simp[h2]
   rw[e]
   exact CV p c s b v w hG h1 (by simpa using h2)
 ·have e:ak c b v=none:=by unfold ak;simp[h1]
  rw[e]
  exact CU p c s b v w hG (by simpa using h1)
theorem KD(p:Pl)(c:Cf)(s:St)(r:Int)(w:World)(hG:G w p c s):
  Calls Tryz.prog 45 #[.pointer (some ⟨p.a,0,none⟩),.int .i64 r] w (GP w p c (s.ask (nA r)) (.int .i64 (s.at? (nA r)))):=by
 have HG:=hid hG
 clear hG
 cases hk:nA r with
 |none=>
  have HK:=hid hk
  clear hk
  go_enter Tryz.func45,Tryz.ntmps45
  go_wp2_with fail
  refine(Ee (jR p c s r _ HG.out) (jG HK.out)).mono ?_
  rintro e w1 ⟨rfl,rfl⟩
  have HD:=hid (Drw.refl w)
  have HG1:=HG
  have cp:=HG1.out.ptr
  go_wp2_with fail
  go_ret
  exact⟨rfl,HG1.out,Touch.of_below (HD.out.new)⟩
 |some k=>
  have HK:=hid hk
  have HL:=hid (show k<s.zs.length by rw[HG.out.len];exact DJ hk)
  clear hk
  have hwr:IntKind.i64.wrap (nth s.zs k)=nth s.zs k:=by have:=HG.out.wf k;exact IntWalk.i64_in _ (by omega)
  go_enter Tryz.func45,Tryz.ntmps45
  go_wp2_with fail
  refine(Ee (jR p c s r _ HG.out) (iU HK.out)).mono ?_
  rintro e w1 ⟨rfl,rfl⟩
  have HD:=hid (Drw.refl w)
  have HG1:=HG
  have cp:=HG1.out.ptr
  go_wp2_with fail
  refine(zJ p.s p.g s.zs s.m k _ HG1.out.st HL.out).mono ?_
  rintro e w2 ⟨rfl,hS,hT⟩
  have HS:=hid hS
  have HT:=hid hT
  clear hS hT
  go_wp2_with fail
  go_ret
  exact⟨rfl,HG1.out.step (s':=s.got) HS.out HT.out rfl HG1.out.wf,(Touch.of_below (HD.out.new)).trans HT.out⟩
theorem Cv(p:Pl)(c:Cf)(s:St)(r:Int)(x:Int)(w:World)(hG:G w p c s):
  Calls Tryz.prog 37 #[.pointer (some ⟨p.a,0,none⟩),.int .i64 r,.int .i64 x] w (GP w p c (s.zZ (nA r) x) (.bool (Ik (nA r) x))):=by
 have HG:=hid hG
 clear hG
 cases hk:nA r with
 |none=>
  have HK:=hid hk
  have E:Hid (s.zZ none x=s):=hid (by unfold St.zZ;split<;>rfl)
  clear hk
  go_enter Tryz.func37,Tryz.ntmps37
  go_wp2_with fail
  refine(Ee (jR p c s r _ HG.out) (jG HK.out)).mono ?_
  rintro e w1 ⟨rfl,rfl⟩
  have HD:=hid (Drw.refl w)
  have HG1:=HG
  have cp:=HG1.out.ptr
  go_wp2_with fail
  go_ret
  exact⟨rfl,by rw[E.out];exact HG1.out,Touch.of_below (HD.out.new)⟩
 |some k=>
  have HK:=hid hk
  have HL:=hid (show k<s.zs.length by rw[HG.out.len];exact DJ hk)
  clear hk
  by_cases hf:nN x=true
  ·have hr:=Ep hf
   have hwr:IntKind.u32.wrap x=x:=IntWalk.u32_in _ (by omega)
   have HF:=hid hf
   clear hf
   go_enter Tryz.func37,Tryz.ntmps37
   go_wp2_with fail
   refine(Ee (jR p c s r _ HG.out) (iU HK.out)).mono ?_
   rintro e w1 ⟨rfl,rfl⟩
   have HD:=hid (Drw.refl w)
   have HG1:=HG
   have cp:=HG1.out.ptr
   go_wp2_with fail
   refine(Jz (sF _ _) HF.out).mono ?_
   rintro e w1 ⟨rfl,rfl⟩
   go_wp2_with fail
   refine(sS p.s p.g s.zs s.m x k _ HG1.out.st HL.out).mono ?_
   rintro e w2 ⟨rfl,hS,hT⟩
   have HS:=hid hS
   have HT:=hid hT
   clear hS hT
   go_wp2_with fail
   go_ret
   refine⟨by unfold Ik;rw[HF.out];rfl,?_,(Touch.of_below (HD.out.new)).trans HT.out⟩
   rw[show s.zZ (some k) x=s.set k x by unfold St.zZ;rw[if_pos HF.out];rfl]
   exact HG1.out.step (s':=s.set k x) HS.out HT.out (s.rG k x) (HG1.out.wf.set k hr.1 hr.2)
  ·have HF:=hid (show nN x=false by simpa using hf)
   clear hf
   go_enter Tryz.func37,Tryz.ntmps37
   go_wp2_with fail
   refine(Ee (jR p c s r _ HG.out) (iU HK.out)).mono ?_
   rintro e w1 ⟨rfl,rfl⟩
   have HD:=hid (Drw.refl w)
   have HG1:=HG
   have cp:=HG1.out.ptr
   go_wp2_with fail
   refine(Jz (sF _ _) HF.out).mono ?_
   rintro e w1 ⟨rfl,rfl⟩
   go_wp2_with fail
   go_ret
   exact⟨by unfold Ik;rw[HF.out];rfl,by unfold St.zZ;rw[if_neg (by rw[HF.out];simp)];exact HG1.out,Touch.of_below (HD.out.new)⟩
theorem uH(p:Pl)(c:Cf)(s:St)(b v:Int)(w:World)(hG:G w p c s):
  Calls Tryz.prog 51 #[.pointer (some ⟨p.a,0,none⟩),.int .i64 b,.int .i64 v] w (GP w p c (s.ask (ak c b v)) (.int .u32 (s.at? (ak c b v)))):=by
 have HG:=hid hG
 clear hG
 cases hk:ak c b v with
 |none=>
  have HK:=hid hk
  clear hk
  go_enter Tryz.func51,Tryz.ntmps51
  go_wp2_with fail
  refine(Ee (eT p c s b v _ HG.out) (jG HK.out)).mono ?_
  rintro e w1 ⟨rfl,hd⟩
  have HD:=hid hd
  have HG1:=hid (HG.out.drw hd)
  have cp:=HG1.out.ptr
  clear hd
  go_wp2_with fail
  go_ret
  exact⟨rfl,HG1.out,Touch.of_below (HD.out.new)⟩
 |some k=>
  have HK:=hid hk
  have HL:=hid (show k<s.zs.length by rw[HG.out.len];exact uF hk)
  clear hk
  go_enter Tryz.func51,Tryz.ntmps51
  go_wp2_with fail
  refine(Ee (eT p c s b v _ HG.out) (iU HK.out)).mono ?_
  rintro e w1 ⟨rfl,hd⟩
  have HD:=hid hd
  have HG1:=hid (HG.out.drw hd)
  have cp:=HG1.out.ptr
  clear hd
  go_wp2_with fail
  refine(zJ p.s p.g s.zs s.m k _ HG1.out.st HL.out).mono ?_
  rintro e w2 ⟨rfl,hS,hT⟩
  have HS:=hid hS
  have HT:=hid hT
  clear hS hT
  go_wp2_with fail
  go_ret
  exact⟨rfl,HG1.out.step (s':=s.got) HS.out HT.out rfl HG1.out.wf,(Touch.of_below (HD.out.new)).trans HT.out⟩
theorem qL(p:Pl)(c:Cf)(s:St)(b v:Int)(w:World)(hG:G w p c s):
  Calls Tryz.prog 109 #[.pointer (some ⟨p.a,0,none⟩),.int .i64 b,.int .i64 v] w fun e w'=>e=.returned (.int .u32 (s.at? (ak c b v)))∧Drw w w':=by
 have HG:=hid hG
 clear hG
 cases hk:ak c b v with
 |none=>
  have HK:=hid hk
  clear hk
  go_enter Tryz.func109,Tryz.ntmps109
  go_wp2_with fail
  refine(Ee (eT p c s b v _ HG.out) (jG HK.out)).mono ?_
  rintro e w1 ⟨rfl,hd⟩
  have HD:=hid hd
  have HG1:=hid (HG.out.drw hd)
  have cp:=HG1.out.ptr
  clear hd
  go_wp2_with fail
  go_ret
  exact⟨rfl,HD.out⟩
 |some k=>
  have HK:=hid hk
  have HL:=hid (show k<s.zs.length by rw[HG.out.len];exact uF hk)
  clear hk
  go_enter Tryz.func109,Tryz.ntmps109
  go_wp2_with fail
  refine(Ee (eT p c s b v _ HG.out) (iU HK.out)).mono ?_
  rintro e w1 ⟨rfl,hd⟩
  have HD:=hid hd
  have HG1:=hid (HG.out.drw hd)
  have cp:=HG1.out.ptr
  clear hd
  go_wp2_with fail
  refine(Ih p.s p.g s.zs _ k _ HG1.out.st HL.out).mono ?_
  rintro e w2 ⟨rfl,rfl⟩
  go_wp2_with fail
  go_ret
  exact⟨rfl,HD.out⟩
theorem Al(p:Pl)(c:Cf)(s:St)(b v:Int)(x:Int)(w:World)(hG:G w p c s)(h0:0≤x)(h1:x≤4294967295):
  Calls Tryz.prog 120 #[.pointer (some ⟨p.a,0,none⟩),.int .i64 b,.int .i64 v,.int .u32 x] w (GP w p c (s.put (ak c b v) x) (.bool (ak c b v).isSome)):=by
 have HG:=hid hG
 clear hG
 cases hk:ak c b v with
 |none=>
  have HK:=hid hk
  clear hk
  go_enter Tryz.func120,Tryz.ntmps120
  go_wp2_with fail
  refine(Ee (eT p c s b v _ HG.out) (jG HK.out)).mono ?_
  rintro e w1 ⟨rfl,hd⟩
  have HD:=hid hd
  have HG1:=hid (HG.out.drw hd)
  have cp:=HG1.out.ptr
  clear hd
  go_wp2_with fail
  go_ret
  exact⟨rfl,HG1.out,Touch.of_below (HD.out.new)⟩
 |some k=>
  have HK:=hid hk
  have HL:=hid (show k<s.zs.length by rw[HG.out.len];exact uF hk)
  clear hk
  go_enter Tryz.func120,Tryz.ntmps120
  go_wp2_with fail
  refine(Ee (eT p c s b v _ HG.out) (iU HK.out)).mono ?_
  rintro e w1 ⟨rfl,hd⟩
  have HD:=hid hd
  have HG1:=hid (HG.out.drw hd)
  have cp:=HG1.out.ptr
  clear hd
  go_wp2_with fail
  refine(sS p.s p.g s.zs s.m x k _ HG1.out.st HL.out).mono ?_
  rintro e w2 ⟨rfl,hS,hT⟩
  have HS:=hid hS
  have HT:=hid hT
  clear hS hT
  go_wp2_with fail
  go_ret
  exact⟨rfl,HG1.out.step (s':=s.set k x) HS.out HT.out (s.rG k x) (HG1.out.wf.set k h0 h1),(Touch.of_below (HD.out.new)).trans HT.out⟩
theorem BG(p:Pl)(c:Cf)(s:St)(w:World)(hG:G w p c s):
  Calls Tryz.prog 27 #[.pointer (some ⟨p.a,0,none⟩)] w fun e w'=>e=.returned (.int .u64 (u64m s.m))∧w=w':=by
 have cp:=hG.ptr
 have HG:=hid hG
 clear hG
 go_enter Tryz.func27,Tryz.ntmps27
 go_wp2_with fail
 refine(EG p.s p.g s.zs _ _ HG.out.st).mono ?_
 rintro e w1 ⟨rfl,rfl⟩
 go_wp2_with fail
 go_ret
 exact⟨rfl,rfl⟩
theorem vZ(p:Pl)(c:Cf)(s:St)(w:World)(hG:G w p c s):
  Calls Tryz.prog 23 #[.pointer (some ⟨p.a,0,none⟩)] w fun e w'=>e=.returned c.val∧Below w.heap.size w w':=by
 have cN:=hG.cN
 have cW:=hG.cW
 have cR:=hG.cR
 have cK:=hG.cK
 have ha:=hG.head.lt
 clear hG
 go_enter Tryz.func23,Tryz.ntmps23
 go_wp2_with fail
 exact bodyPost_ret (v:=c.val) (by simp[results,Tryz.results23,go_sem,Cf.val]) rfl ⟨rfl,by
  repeat refine Below.setCell ?_ (by simp) _
  exact below_new w _⟩
def St.jV(s:St)(f:Nat):Nat→St
 |0=>s
 |n+1=>(s.jV f n).set (f+n) 0
theorem St.oO(s:St)(f n:Nat):(s.jV f n).zs.length=s.zs.length:=by
 induction n with
 |zero=>rfl
 |succ n ih=>rw[←ih];exact St.rG _ _ _
theorem St.MR(s:St)(f n:Nat):(s.jV f n).m=s.m+n:=by
 induction n with
 |zero=>rfl
 |succ n ih=>show(s.jV f n).m+1=_;omega
theorem St.Jh(s:St)(f n k:Nat)(h:f+n≤s.zs.length):nth (s.jV f n).zs k=if f≤k∧k<f+n then 0 else nth s.zs k:=by
 induction n with
 |zero=>rw[if_neg (by omega)];rfl
 |succ n ih=>
  show nth ((s.jV f n).zs.set (f+n) 0) k=_
  by_cases e:f+n=k
  ·subst e
   rw[av (by rw[St.oO];omega),if_pos (by omega)]
  ·rw[aa e,ih (by omega)]
   by_cases h1:f≤k∧k<f+n
   ·rw[if_pos h1,if_pos (by omega)]
   ·rw[if_neg h1,if_neg (by omega)]
theorem Bp.jV{s:St}(h:Bp s.zs)(f n:Nat):Bp (s.jV f n).zs:=by
 induction n with
 |zero=>exact h
 |succ n ih=>exact Bp.set ih _ (Int.le_refl _) (by decide)
def St.uE(s:St)(c:Cf)(b:Int):St:=match ak c b 0 with|some f=>s.jV f c.W|none=>s
def Jf(c:Cf)(b:Int):Int:=if iM b c.N then(c.W:Int) else 0
theorem Jg(p:Pl)(c:Cf)(s:St)(b:Int)(w:World)(hG:G w p c s):
  Calls Tryz.prog 214 #[.pointer (some ⟨p.a,0,none⟩),.int .i64 b] w (GP w p c (s.uE c b) (.int .i64 (Jf c b))):=by
 have HG:=hid hG
 clear hG
 have e0:((0:Nat):Int)=0:=rfl
 cases hk:ak c b 0 with
 |none=>
  have HK:=hid hk
  have HB:Hid (iM b c.N=false):=hid (by
   have:=HG.out.may.w
   cases hb:iM b c.N with
   |false=>rfl
   |true=>
    have h2:iM (0:Int) c.W=true:=gP (k:=0) (by omega)
    rw[ak,hb,h2] at hk
    cases hk)
  clear hk
  go_enter Tryz.func214,Tryz.ntmps214
  go_wp2_with fail
  refine(Ee (eT p c s b 0 _ HG.out) (jG HK.out)).mono ?_
  rintro e w1 ⟨rfl,hd⟩
  have HD:=hid hd
  clear hd
  go_wp2_with fail
  go_ret
  refine⟨by unfold Jf;rw[HB.out];rfl,?_,Touch.of_below HD.out.new⟩
  rw[show s.uE c b=s by unfold St.uE;rw[HK.out]]
  exact HG.out.drw HD.out
 |some f=>
  have HK:=hid hk
  have hB:iM b c.N=true:=by
   cases hb:iM b c.N with
   |true=>rfl
   |false=>rw[ak,hb] at hk;cases hk
  have HF:Hid (f+c.W≤c.size):=hid (by
   obtain⟨i,rfl,hi⟩:=jm hB
   have h2:iM (0:Int) c.W=true:=gP (k:=0) (by have:=HG.out.may.w;omega)
   rw[ak,hB,h2] at hk
   cases hk
   have:=jW (w:=c.W-1) hi (by have:=HG.out.may.w;omega)
   have:=HG.out.may.w
   simp
   omega)
  have HB:=hid hB
  clear hk hB
  go_enter Tryz.func214,Tryz.ntmps214
  go_wp2_with fail
  refine(Ee (eT p c s b 0 _ HG.out) (iU HK.out)).mono ?_
  rintro e w1 ⟨rfl,hd⟩
  have HD:=hid hd
  have HG1:=hid (HG.out.drw hd)
  have cW:=HG1.out.cW
  clear hd
  go_wp2_with fail
  go_loopw [21] (fun i wr=>∃k:Nat,k≤c.W∧i=.int .i64 k∧G wr p c (s.jV f k)∧Touch (inG p) w wr) (fun i _=>c.W-(intOf i).toNat)
  case atStart=>exact⟨0,Nat.zero_le _,rfl,HG1.out,Touch.of_below HD.out.new⟩
  case round=>
   obtain⟨k,hkW,rfl,hGk,hTk⟩:=hrel
   have hW:=HG.out.may.w
   have HGk:=hid hGk
   have HTk:=hid hTk
   have cp:=hGk.ptr
   have cW:=hGk.cW
   have hf:f+k≤4198424:=by have:=HF.out;have:=HG.out.may.size;omega
   have hadd:IntKind.i64.wrap ((f:Int)+(k:Int))=((f+k:Nat):Int):=by rw[IntWalk.i64_in _ (by omega)];exact(Int.natCast_add f k).symm
   clear hGk hTk
   by_cases hlt:k<c.W
   ·have HL:Hid (f+k<(s.jV f k).zs.length):=hid (by rw[St.oO,HG.out.len];have:=HF.out;omega)
    go_wp2_with fail
    refine(sS p.s p.g (s.jV f k).zs (s.jV f k).m 0 (f+k) _ HGk.out.st HL.out).mono ?_
    rintro e w2 ⟨rfl,hS,hT⟩
    have HS:=hid hS
    have HT:=hid hT
    clear hS hT
    go_wp2_with fail
    go_roundw
    case rel=>exact⟨k+1,by omega,by go_num,HGk.out.step (s':=s.jV f (k+1)) HS.out HT.out (St.rG _ _ _) (HG.out.wf.jV f (k+1)),HTk.out.trans HT.out⟩
    case measure=>simp[intOf];omega
   ·obtain rfl:k=c.W:=by omega
    go_wp2_with fail
    go_ret
    refine⟨by unfold Jf;rw[HB.out];rfl,?_,HTk.out⟩
    rw[show s.uE c b=s.jV f c.W by unfold St.uE;rw[HK.out]]
    exact HGk.out
def Oh(tg ts e:TypeId)(w:World)(c:Cf)(en:Ending)(w':World):Prop:=
 ∃p:Pl,en=.returned (.tuple #[.pointer (some ⟨p.a,0,none⟩),.int .i64 0])∧jC tg ts e w' p c ⟨List.replicate c.size 0,0⟩∧(∀k,ofG p k→w.heap.size≤k)∧Below w.heap.size w w'
theorem NC{c:Cf}:Dz c.N c.W c.R c.K=.agg #[.int .i64 (c.size:Int),.int .i64 ((c.W:Int)-8),.int .i64 ((c.W:Int)-7),.int .i64 (fieldsI c.W),.int .i64 (fP c.N c.W),.int .i64 (gp c.N c.W),.int .i64 (LU c.N c.W c.K),.int .i64 (yc c.N c.W c.K)]:=by
 unfold Dz
 have e:yE (c.N:Int) (c.W:Int) (c.R:Int)=(c.size:Int):=by
  unfold yE Cf.size
  simp[Int.natCast_add,Int.natCast_mul]
 rw[e]
set_option maxHeartbeats 400000 in
theorem GM(c:Cf)(w:World)(h:c.May):
  Calls Tryz.prog 34 #[c.val] w (Oh 92 161 126 w c):=by
 have HM:=hid h
 unfold Cf.val
 clear h
 go_enter Tryz.func34,Tryz.ntmps34
 go_wp2_with fail
 refine(OB _ HM.out NC).mono ?_
 rintro e w1 ⟨rfl,hb⟩
 obtain⟨hc,hf⟩:=Dc hb
 have hz:w.heap.size<w1.heap.size:=by have:=hb.size;simp at this;omega
 have HB:=hid (below_step (below_new w _) hb)
 clear hb
 go_wp2_with fail
 refine(Kb c.size _ (by have:=HM.out.size;omega)).mono ?_
 rintro e w2 ⟨s,g,rfl,hS,hs,hg,hb⟩
 have HS:=hid hS
 have HB2:=hid hb
 have Hs:=hid hs
 have Hg:=hid hg
 obtain⟨hc2,hf2⟩:=Dc hb
 have hz2:w.heap.size<w2.heap.size:=by have:=hb.size;simp at this;omega
 have c0:w2.cell? ⟨w.heap.size,0,none⟩=some (.int .i64 (c.N:Int)):=by rw[hc2 _ _ (by simp;omega)];go_simp
 have c1:w2.cell? ⟨w.heap.size,1,none⟩=some (.int .i64 (c.W:Int)):=by rw[hc2 _ _ (by simp;omega)];go_simp
 have c2:w2.cell? ⟨w.heap.size,2,none⟩=some (.int .i64 (c.R:Int)):=by rw[hc2 _ _ (by simp;omega)];go_simp
 have c3:w2.cell? ⟨w.heap.size,3,none⟩=some (.int .i64 (c.K:Int)):=by rw[hc2 _ _ (by simp;omega)];go_simp
 clear hS hs hg hb hc hf hc2 hf2
 go_wp2_with fail
 go_ret2
 exact⟨⟨w2.heap.size,s,g⟩,rfl,⟨Blk.new w2 _ _,HS.out.alloc _,by simp,by have:=HS.out.head.lt;simp;omega,by have:=HS.out.body.lt;simp;omega,HM.out,Bp.rep _⟩,by
  have h1:=HB.out.size
  have h2:=HB2.out.size
  have h3:=Hs.out
  have h4:=Hg.out
  simp at h2 h3 h4
  intro k hk
  have hk':k=w2.heap.size∨k=s∨k=g:=hk
  omega,by
  have h1:=HB.out.size
  have h2:=HB2.out.size
  simp at h2
  exact((HB.out.alloc HB.out.size _).trans (HB2.out.mono (by simp;omega))).alloc (by omega) _⟩
def adr(c:Cf)(b v:Nat):Nat:=24+c.R+b*c.W+v
theorem cB{c:Cf}{b v:Nat}(hb:b<c.N)(hv:v<c.W):adr c b v<c.size:=jW hb hv
theorem dZ{c:Cf}{b v:Nat}(hb:b<c.N)(hv:v<c.W):ak c (b:Int) (v:Int)=some (adr c b v):=by
 unfold ak
 rw[gP hb,gP hv]
 rfl
theorem ah{c:Cf}{a b u v:Nat}(hu:u<c.W)(hv:v<c.W)(h:adr c a u=adr c b v):a=b∧u=v:=by
 unfold adr at h
 have h2:a*c.W+u=b*c.W+v:=by omega
 have e1:(a*c.W+u)/c.W=a:=by rw[Nat.add_comm,Nat.add_mul_div_right _ _ (by omega),Nat.div_eq_of_lt hu];omega
 have e2:(b*c.W+v)/c.W=b:=by rw[Nat.add_comm,Nat.add_mul_div_right _ _ (by omega),Nat.div_eq_of_lt hv];omega
 have:a=b:=by rw[←e1,←e2,h2]
 subst this
 exact⟨rfl,by omega⟩
theorem rq{c:Cf}{b v r:Nat}(hr:r<24):¬r=adr c b v:=by unfold adr;omega
theorem aO{c:Cf}{b v r:Nat}(hr:r<24):¬adr c b v=r:=by unfold adr;omega
theorem Ir{r:Nat}(h:r<24):nA (r:Int)=some r:=by
 unfold nA;rw[gP h];simp
theorem fQ(p:Pl)(c:Cf)(s:St)(r:Nat)(x y:Int)(w:World)(hG:G w p c s)(hr:r<24)(hx:x=(r:Int))(hy:nth s.zs r=y):
  Calls Tryz.prog 45 #[.pointer (some ⟨p.a,0,none⟩),.int .i64 x] w (GP w p c s.got (.int .i64 y)):=by
 subst hx hy
 have h:=KD p c s (r:Int) w hG
 rw[Ir hr] at h
 exact h
theorem aB(p:Pl)(c:Cf)(s:St)(r:Nat)(x y:Int)(w:World)(hG:G w p c s)(hr:r<24)(hx:x=(r:Int))(h0:0≤y)(h1:y≤4294967295):
  Calls Tryz.prog 37 #[.pointer (some ⟨p.a,0,none⟩),.int .i64 x,.int .i64 y] w (GP w p c (s.set r y) (.bool true)):=by
 subst hx
 have h:=Cv p c s (r:Int) y w hG
 rw[Ir hr] at h
 have e:s.zZ (some r) y=s.set r y:=by unfold St.zZ;rw[if_pos (zf h0 h1)];rfl
 have e2:Ik (some r) y=true:=by unfold Ik;rw[zf h0 h1];rfl
 rw[e,e2] at h
 exact h
theorem dW(p:Pl)(c:Cf)(s:St)(b v:Nat)(x z y:Int)(w:World)(hG:G w p c s)(hb:b<c.N)(hv:v<c.W)(hx:x=(b:Int))(hz:z=(v:Int))(hy:nth s.zs (adr c b v)=y):
  Calls Tryz.prog 51 #[.pointer (some ⟨p.a,0,none⟩),.int .i64 x,.int .i64 z] w (GP w p c s.got (.int .u32 y)):=by
 subst hx hz hy
 have h:=uH p c s (b:Int) (v:Int) w hG
 rw[dZ hb hv] at h
 exact h
theorem ay(p:Pl)(c:Cf)(s:St)(b v:Nat)(x z y:Int)(w:World)(hG:G w p c s)(hb:b<c.N)(hv:v<c.W)(hx:x=(b:Int))(hz:z=(v:Int))(h0:0≤y)(h1:y≤4294967295):
  Calls Tryz.prog 120 #[.pointer (some ⟨p.a,0,none⟩),.int .i64 x,.int .i64 z,.int .u32 y] w (GP w p c (s.set (adr c b v) y) (.bool true)):=by
 subst hx hz
 have h:=Al p c s (b:Int) (v:Int) y w hG h0 h1
 rw[dZ hb hv] at h
 exact h
theorem Ag(p:Pl)(c:Cf)(s:St)(b v:Nat)(x z y:Int)(w:World)(hG:G w p c s)(hb:b<c.N)(hv:v<c.W)(hx:x=(b:Int))(hz:z=(v:Int))(hy:nth s.zs (adr c b v)=y):
  Calls Tryz.prog 109 #[.pointer (some ⟨p.a,0,none⟩),.int .i64 x,.int .i64 z] w fun e w'=>e=.returned (.int .u32 y)∧Drw w w':=by
 subst hx hz hy
 have h:=qL p c s (b:Int) (v:Int) w hG
 rw[dZ hb hv] at h
 exact h
theorem FH.out{tg ts e:TypeId}{w w':World}{p:Pl}{c:Cf}{s:St}{v:Value}{en:Ending}(h:FH tg ts e w p c s v en w'):en=.returned v∧jC tg ts e w' p c s∧Touch (inG p) w w':=h
theorem dw(p:Pl)(c:Cf)(s:St)(w:World)(hG:G w p c s):
  Calls Tryz.prog 23 #[.pointer (some ⟨p.a,0,none⟩)] w fun e w'=>e=.returned (.agg #[.int .i64 (c.N:Int),.int .i64 (c.W:Int),.int .i64 (c.R:Int),.int .i64 (c.K:Int)])∧Below w.heap.size w w':=vZ p c s w hG
theorem cfield0(a b c d:Int)(w:World):(Instr.field 23 (.agg #[.int .i64 a,.int .i64 b,.int .i64 c,.int .i64 d]) 0).run Tryz.prog w=.ok (.int .i64 a) w:=by kernel_rfl
theorem cfield1(a b c d:Int)(w:World):(Instr.field 23 (.agg #[.int .i64 a,.int .i64 b,.int .i64 c,.int .i64 d]) 1).run Tryz.prog w=.ok (.int .i64 b) w:=by kernel_rfl
theorem Di{l l':List Int}(h:l.length=l'.length)(hn:∀i,i<l.length→nth l i=nth l' i):l=l':=by
 apply List.ext_getElem h
 intro i h1 h2
 have:=hn i h1
 unfold nth at this
 simpa[List.getD,h1,h2] using this
def DD(n:Nat)(f:Nat→Int):List Int:=(List.range n).map f
theorem eP(n:Nat)(f:Nat→Int):(DD n f).length=n:=by simp[DD]
theorem bu{n:Nat}(f:Nat→Int){i:Nat}(h:i<n):nth (DD n f) i=f i:=by unfold nth DD;simp[List.getD,h]
theorem lC{l:List Int}{n:Nat}{f:Nat→Int}(h:l.length=n)(hn:∀i,i<n→nth l i=f i):l=DD n f:=
 Di (by rw[eP,h]) (fun i hi=>by rw[bu f (by omega)];exact hn i (by omega))
theorem aF{zs:List Int}{k:Nat}(hk:k<zs.length)(v:Int)(i:Nat):nth (zs.set k v) i=if i=k then v else nth zs i:=by
 by_cases h:i=k
 ·subst h;rw[av hk,if_pos rfl]
 ·rw[aa (fun e=>h e.symm),if_neg h]
def eO(c:Cf)(b:Nat):Nat:=24+c.R+b*c.W+5
theorem ja{c:Cf}{b:Nat}(hm:c.May)(hb:b<c.N):eO c b<c.size:=jW hb (by have:=hm.w;omega)
theorem nW{c:Cf}(hm:c.May){a b:Nat}(h:eO c a=eO c b):a=b:=by
 have hw:=hm.w
 unfold eO at h
 have h2:a*c.W=b*c.W:=by omega
 exact Nat.eq_of_mul_eq_mul_right (by omega) h2
theorem kC{c:Cf}{b r:Nat}(hr:r<24):¬r=eO c b:=by unfold eO;omega
theorem aX{c:Cf}{b r:Nat}(hr:r<24):¬eO c b=r:=by unfold eO;omega
def iG:List Nat→Int
 |[]=>0
 |b::_=>(b:Int)+1
def jb:List Nat→Int
 |[]=>0
 |[b]=>(b:Int)+1
 |_::b::t=>jb (b::t)
theorem mq:∀{l:List Nat},jb l=0→l=[]
 |[],_=>rfl
 |[b],h=>absurd (show((b:Int)+1)=0 from h) (by omega)
 |_::b::t,h=>absurd (mq (l:=b::t) h) (by simp)
theorem iP:∀(l:List Nat) (b:Nat),jb (l++[b])=(b:Int)+1
 |[],b=>rfl
 |[a],b=>rfl
 |a::a'::t,b=>iP (a'::t) b
theorem fE:∀(l:List Nat),l≠[]→∃b,b∈l∧jb l=(b:Int)+1
 |[],h=>absurd rfl h
 |[b],_=>⟨b,by simp,rfl⟩
 |a::b::t,_=>by
  obtain⟨x,hx,he⟩:=fE (b::t) (by simp)
  exact⟨x,by simp at hx ⊢;exact Or.inr hx,he⟩
theorem vY(l:List Nat)(b:Nat):iG (l++[b])=if l=[] then(b:Int)+1 else iG l:=by
 cases l with
 |nil=>rfl
 |cons a t=>rfl
def lm(c:Cf)(zs:List Int):List Nat→Prop
 |[]=>True
 |b::t=>nth zs (eO c b)=iG t∧lm c zs t
theorem lm.congr{c:Cf}{zs zs':List Int}:∀{l:List Nat},lm c zs l→(∀b,b∈l→nth zs' (eO c b)=nth zs (eO c b))→lm c zs' l
 |[],_,_=>trivial
 |b::t,h,hc=>⟨by rw[hc b (by simp)];exact h.1,lm.congr h.2 (fun x hx=>hc x (by simp[hx]))⟩
theorem lm.snoc{c:Cf}{zs zs':List Int}{b:Nat}(hb:nth zs' (eO c b)=0):∀{l:List Nat},lm c zs l→l.Nodup→(∀a,a∈l→nth zs' (eO c a)=if jb l=(a:Int)+1 then(b:Int)+1 else nth zs (eO c a))→lm c zs' (l++[b])
 |[],_,_,_=>⟨hb,trivial⟩
 |[a],h,_,hc=>⟨by rw[hc a (by simp),if_pos (show jb [a]=(a:Int)+1 from rfl)];rfl,hb,trivial⟩
 |a::a'::t,h,hn,hc=>by
  refine⟨?_,lm.snoc hb (l:=a'::t) h.2 (List.nodup_cons.1 hn).2 (fun x hx=>hc x (List.mem_cons_of_mem _ hx))⟩
  have hne:jb (a::a'::t)≠(a:Int)+1:=by
   intro e
   obtain⟨x,hx,he⟩:=fE (a'::t) (by simp)
   have:x=a:=by have:jb (a::a'::t)=(x:Int)+1:=he;omega
   subst this
   exact(List.nodup_cons.1 hn).1 hx
  rw[hc a (by simp),if_neg hne]
  exact h.1
structure aA (c:Cf) (zs:List Int) (k:Nat) (l:List Nat):Prop where
 r0:nth zs (3*k)=iG l
 r1:nth zs (3*k+1)=jb l
 r2:nth zs (3*k+2)=(l.length:Int)
 lt:∀b,b∈l→b<c.N
 nd:l.Nodup
 ln:lm c zs l
theorem aA.fst{c:Cf}{zs:List Int}{k b:Nat}{t:List Nat}(h:aA c zs k (b::t)):nth zs (3*k)=(b:Int)+1∧nth zs (eO c b)=iG t:=⟨h.r0,h.ln.1⟩
theorem bB:∀{N:Nat} {l:List Nat},l.Nodup→(∀b,b∈l→b<N)→l.length≤N
 |0,[],_,_=>Nat.le_refl _
 |0,b::t,_,hl=>absurd (hl b (by simp)) (by omega)
 |N+1,l,hn,hl=>by
  by_cases h:N∈l
  ·have h1:=bB (N:=N) (l:=l.erase N) (hn.erase N) (fun b hb=>by
    have h2:=(hn.mem_erase_iff).1 hb
    have:=hl b h2.2
    have:=h2.1
    omega)
   rw[List.length_erase_of_mem h] at h1
   omega
  ·have h1:=bB (N:=N) (l:=l) hn (fun b hb=>by
    have:=hl b hb
    have:b≠N:=fun e=>h (by rw[←e];exact hb)
    omega)
   omega
theorem aA.congr{c:Cf}{zs zs':List Int}{k:Nat}{l:List Nat}(h:aA c zs k l)(h0:nth zs' (3*k)=nth zs (3*k))(h1:nth zs' (3*k+1)=nth zs (3*k+1))(h2:nth zs' (3*k+2)=nth zs (3*k+2))
  (hc:∀b,b∈l→nth zs' (eO c b)=nth zs (eO c b)):aA c zs' k l:=
 ⟨h0.trans h.r0,h1.trans h.r1,h2.trans h.r2,h.lt,h.nd,h.ln.congr hc⟩
def kR(c:Cf)(k b:Nat)(zs:List Int)(i:Nat):Int:=
 if i=3*k+2 then nth zs (3*k+2)+1 else if i=3*k then(b:Int)+1 else if i=3*k+1 then(if nth zs (3*k)=0 then(b:Int)+1 else nth zs (3*k+1)) else if i=eO c b then nth zs (3*k) else nth zs i
def addN(c:Cf)(k b:Nat)(zs:List Int)(i:Nat):Int:=
 if i=3*k+2 then nth zs (3*k+2)+1 else if i=3*k then(if nth zs (3*k+1)=0 then(b:Int)+1 else nth zs (3*k)) else if i=3*k+1 then(b:Int)+1 else if i=eO c b then 0
 else if nth zs (3*k+1)≠0∧i=eO c (nth zs (3*k+1)-1).toNat then(b:Int)+1 else nth zs i
def takeN(c:Cf)(k b:Nat)(zs:List Int)(i:Nat):Int:=
 if i=3*k+2 then nth zs (3*k+2)-1 else if i=3*k then nth zs (eO c b) else if i=3*k+1 then(if nth zs (eO c b)=0 then 0 else nth zs (3*k+1)) else if i=eO c b then 0 else nth zs i
def lN(c:Cf)(k b:Nat)(zs:List Int):List Int:=DD zs.length (kR c k b zs)
def gK(c:Cf)(k b:Nat)(zs:List Int):List Int:=DD zs.length (addN c k b zs)
def di(c:Cf)(k b:Nat)(zs:List Int):List Int:=DD zs.length (takeN c k b zs)
theorem ow(c:Cf)(k b:Nat)(zs:List Int):(lN c k b zs).length=zs.length:=eP _ _
theorem ic(c:Cf)(k b:Nat)(zs:List Int):(gK c k b zs).length=zs.length:=eP _ _
theorem bZ(c:Cf)(k b:Nat)(zs:List Int):(di c k b zs).length=zs.length:=eP _ _
section
variable {c:Cf} {zs:List Int} {k b:Nat} {l:List Nat}
theorem aA.push(h:aA c zs k l)(hm:c.May)(hz:zs.length=c.size)(hk:k<2)(hb:b<c.N)(hn:b∉l):aA c (lN c k b zs) k (b::l):=by
 have hs:=hm.size
 have g:∀i,i<c.size→nth (lN c k b zs) i=kR c k b zs i:=fun i hi=>bu _ (by omega)
 have gl:∀x,x<c.N→nth (lN c k b zs) (eO c x)=if x=b then nth zs (3*k) else nth zs (eO c x):=fun x hx=>by
  rw[g _ (ja hm hx)]
  unfold kR
  rw[if_neg (aX (by omega)),if_neg (aX (by omega)),if_neg (aX (by omega))]
  by_cases e:x=b
  ·subst e;rw[if_pos rfl,if_pos rfl]
  ·rw[if_neg (fun h=>e (nW hm h)),if_neg e]
 refine⟨?_,?_,?_,?_,List.nodup_cons.2 ⟨hn,h.nd⟩,?_,?_⟩
 ·rw[g _ (by omega)];unfold kR;rw[if_neg (by omega),if_pos rfl];rfl
 ·rw[g _ (by omega)];unfold kR;rw[if_neg (by omega),if_neg (by omega),if_pos rfl,h.r0,h.r1]
  cases l with
  |nil=>rfl
  |cons a t=>rw[if_neg (show ¬(iG (a::t)=0) from fun e=>absurd (show((a:Int)+1)=0 from e) (by omega))];rfl
 ·rw[g _ (by omega)];unfold kR;rw[if_pos rfl,h.r2];simp
 ·intro x hx
  rcases List.mem_cons.1 hx with rfl|hx
  ·exact hb
  ·exact h.lt x hx
 ·rw[gl b hb,if_pos rfl];exact h.r0
 ·exact h.ln.congr (fun x hx=>by rw[gl x (h.lt x hx),if_neg (fun e:x=b=>hn (by rw[←e];exact hx))])
theorem aA.add(h:aA c zs k l)(hm:c.May)(hz:zs.length=c.size)(hk:k<2)(hb:b<c.N)(hn:b∉l):aA c (gK c k b zs) k (l++[b]):=by
 have hs:=hm.size
 have g:∀i,i<c.size→nth (gK c k b zs) i=addN c k b zs i:=fun i hi=>bu _ (by omega)
 have gl:∀x,x<c.N→x≠b→nth (gK c k b zs) (eO c x)=if jb l=(x:Int)+1 then(b:Int)+1 else nth zs (eO c x):=fun x hx e=>by
  rw[g _ (ja hm hx)]
  unfold addN
  rw[if_neg (aX (by omega)),if_neg (aX (by omega)),if_neg (aX (by omega)),if_neg (fun h=>e (nW hm h)),h.r1]
  by_cases e2:jb l=(x:Int)+1
  ·rw[if_pos e2,if_pos ⟨by omega,by rw[e2];congr 1;omega⟩]
  ·rw[if_neg e2,if_neg]
   rintro⟨h1,h2⟩
   have h3:=nW hm h2
   obtain⟨y,_,hy⟩:=fE l (fun h=>h1 (by rw[h];rfl))
   rw[hy] at h3
   exact e2 (by rw[hy];omega)
 have gb:nth (gK c k b zs) (eO c b)=0:=by
  rw[g _ (ja hm hb)]
  unfold addN
  rw[if_neg (aX (by omega)),if_neg (aX (by omega)),if_neg (aX (by omega)),if_pos rfl]
 refine⟨?_,?_,?_,?_,?_,?_⟩
 ·rw[g _ (by omega)];unfold addN;rw[if_neg (by omega),if_pos rfl,h.r1,h.r0,vY]
  by_cases e:l=[]
  ·subst e;rfl
  ·rw[if_neg (fun h=>e (mq h)),if_neg e]
 ·rw[g _ (by omega)];unfold addN;rw[if_neg (by omega),if_neg (by omega),if_pos rfl,iP]
 ·rw[g _ (by omega)];unfold addN;rw[if_pos rfl,h.r2];simp
 ·intro x hx
  rcases List.mem_append.1 hx with hx|hx
  ·exact h.lt x hx
  ·simp at hx;subst hx;exact hb
 ·rw[List.nodup_append]
  exact⟨h.nd,by simp,fun x hx y hy=>by simp at hy;subst hy;exact fun e=>hn (by rw[←e];exact hx)⟩
 ·exact lm.snoc gb h.ln h.nd (fun x hx=>gl x (h.lt x hx) (fun e=>hn (by rw[←e];exact hx)))
theorem aA.take(h:aA c zs k (b::l))(hm:c.May)(hz:zs.length=c.size)(hk:k<2):aA c (di c k b zs) k l∧nth (di c k b zs) (eO c b)=0:=by
 have hs:=hm.size
 have hb:=h.lt b (by simp)
 have hn:=(List.nodup_cons.1 h.nd).1
 have hl:=h.ln.1
 have g:∀i,i<c.size→nth (di c k b zs) i=takeN c k b zs i:=fun i hi=>bu _ (by omega)
 have gl:∀x,x<c.N→nth (di c k b zs) (eO c x)=if x=b then 0 else nth zs (eO c x):=fun x hx=>by
  rw[g _ (ja hm hx)]
  unfold takeN
  rw[if_neg (aX (by omega)),if_neg (aX (by omega)),if_neg (aX (by omega))]
  by_cases e:x=b
  ·subst e;rw[if_pos rfl,if_pos rfl]
  ·rw[if_neg (fun h=>e (nW hm h)),if_neg e]
 refine⟨⟨?_,?_,?_,fun x hx=>h.lt x (by simp[hx]),(List.nodup_cons.1 h.nd).2,?_⟩,by rw[gl b hb,if_pos rfl]⟩
 ·rw[g _ (by omega)];unfold takeN;rw[if_neg (by omega),if_pos rfl];exact hl
 ·rw[g _ (by omega)];unfold takeN;rw[if_neg (by omega),if_neg (by omega),if_pos rfl,hl,h.r1]
  cases l with
  |nil=>rfl
  |cons a t=>rw[if_neg (show ¬(iG (a::t)=0) from fun e=>absurd (show((a:Int)+1)=0 from e) (by omega))];rfl
 ·rw[g _ (by omega)];unfold takeN;rw[if_pos rfl,h.r2];simp
 ·exact h.ln.2.congr (fun x hx=>by rw[gl x (h.lt x (by simp[hx])),if_neg (fun e:x=b=>hn (by rw[←e];exact hx))])
theorem Bp.DD{n:Nat}{f:Nat→Int}(h:∀i,i<n→0≤f i∧f i≤4294967295):Bp (DD n f):=by
 intro i
 by_cases hi:i<n
 ·rw[bu f hi];exact h i hi
 ·rw[aY (by rw[eP];omega)];decide
end
theorem aA.zero(c:Cf)(q k:Nat):aA c (List.replicate q 0) k []:=⟨jr _ _,jr _ _,jr _ _,fun _ h=>(List.not_mem_nil h).elim,List.nodup_nil,trivial⟩
def fK(c:Cf)(f:FuncId)(args:List Value)(zs:List Int)(B:Nat)(zs':List Int)(v:Value):Prop:=
 ∃d,d≤B∧∀(p:Pl) (m:Nat) (w:World),G w p c ⟨zs,m⟩→Calls Tryz.prog f (List.toArray (.pointer (some ⟨p.a,0,none⟩)::args)) w (GP w p c ⟨zs',m+d⟩ v)
theorem fK.mono{c:Cf}{f:FuncId}{args:List Value}{zs zs':List Int}{B B':Nat}{v:Value}(h:fK c f args zs B zs' v)(hB:B≤B'):fK c f args zs B' zs' v:=by
 obtain⟨d,hd,h⟩:=h;exact⟨d,Nat.le_trans hd hB,h⟩
structure Wz (c:Cf) (zs:List Int):Prop where
 may:c.May
 len:zs.length=c.size
 wf:Bp zs
theorem jC.wz{tg ts e:TypeId}{w:World}{p:Pl}{c:Cf}{s:St}(h:jC tg ts e w p c s):Wz c s.zs:=⟨h.may,h.len,h.wf⟩
theorem Wz.DD{c:Cf}{zs:List Int}(h:Wz c zs){f:Nat→Int}(hf:∀i,i<zs.length→0≤f i∧f i≤4294967295){q:Nat}(hq:q=zs.length):Wz c ((List.range q).map f):=by
 subst hq
 refine⟨h.may,by simp[h.len],?_⟩
 intro i
 by_cases hi:i<zs.length
 ·unfold nth;simp[List.getD,hi];exact hf i hi
 ·rw[aY (by simp;omega)];decide
theorem jC.bR{tg ts e:TypeId}{w:World}{p:Pl}{c:Cf}{s:St}(h:jC tg ts e w p c s){i:Nat}(hi:ofG p i):i<w.heap.size:=by
 rcases hi with rfl|rfl|rfl
 ·exact h.head.lt
 ·exact h.st.head.lt
 ·exact h.st.body.lt
theorem Blk.drw{w w':World}{b:Nat}{cs:Array Value}{t:TypeId}(h:Blk w b cs t)(d:Drw w w'):Blk w' b cs t:=h.later d.new
def Looks(c:Cf)(f:FuncId)(args:List Value)(zs:List Int)(Q:World→Ending→World→Prop):Prop:=
 ∀(p:Pl) (m:Nat) (w:World),G w p c ⟨zs,m⟩→Calls Tryz.prog f (List.toArray (.pointer (some ⟨p.a,0,none⟩)::args)) w (Q w)
def bA(x:Int):Prop:=aQ (uK x) (uC x) (uN x) (uS x) (uD x) (uG x) (uO x)∧x/128%2=0∧0≤x
def aM(x:Int):Prop:=uK x=1∨uK x=2
theorem bA.pack{x:Int}(h:bA x):aU (uK x) (uC x) (uN x) (uS x) (uD x) (uG x) (uO x)=x:=by
 rw[zR,h.2.1];omega
theorem bA.bd{x:Int}(h:bA x):0≤x∧x≤268435455:=by
 obtain⟨⟨_,⟨o0,o1⟩,_⟩,h7,h0⟩:=h
 unfold uO at o1
 omega
theorem Jc(x:Int):uG x=0∨uG x=1:=by unfold uG;omega
theorem NQ(x:Int):0≤uK x∧uK x<4:=by unfold uK;omega
theorem bA.free{x:Int}(h:bA x)(hk:¬aM x):uG x=0:=by
 have:=NQ x
 unfold aM at hk
 exact(h.1.2.2.2.2.2.2.2.2 (by omega)).2.2.2.2
theorem bA.Lm{x:Int}(h:bA x)(hk:aM x)(hg:uG x=0):
  bA (x+64)∧aU (uK x) (uC x) (uN x) (uS x) (uD x) 1 (uO x)=x+64∧aQ (uK x) (uC x) (uN x) (uS x) (uD x) 1 (uO x)∧uK (x+64)=uK x∧uC (x+64)=uC x∧uN (x+64)=uN x∧uS (x+64)=uS x∧uD (x+64)=uD x∧uG (x+64)=1∧uO (x+64)=uO x:=by
 have e0:uK (x+64)=uK x:=by unfold uK;omega
 have e1:uC (x+64)=uC x:=by unfold uC;omega
 have e2:uN (x+64)=uN x:=by unfold uN;omega
 have e3:uS (x+64)=uS x:=by unfold uS;omega
 have e4:uD (x+64)=uD x:=by unfold uD;omega
 have e5:uG (x+64)=1:=by unfold uG at hg ⊢;omega
 have h7:=h.2.1
 have e6:uO (x+64)=uO x:=by unfold uO;unfold uG at hg;omega
 have r:=h.1
 have hr:aQ (uK x) (uC x) (uN x) (uS x) (uD x) 1 (uO x):=by
  unfold aM at hk
  exact⟨r.1,r.2.1,r.2.2.1,r.2.2.2.1,r.2.2.2.2.1,r.2.2.2.2.2.1,r.2.2.2.2.2.2.1,by omega,fun h=>by omega⟩
 refine⟨⟨by rw[e0,e1,e2,e3,e4,e5,e6];exact hr,by unfold uG at hg;omega,by have:=h.2.2;omega⟩,?_,hr,e0,e1,e2,e3,e4,e5,e6⟩
 have hp:=h.pack
 rw[hg] at hp
 unfold aU at hp ⊢
 omega
theorem bA.Ll{x:Int}(h:bA x)(hk:aM x)(hg:uG x=1):
  bA (x-64)∧aU (uK x) (uC x) (uN x) (uS x) (uD x) 0 (uO x)=x-64∧aQ (uK x) (uC x) (uN x) (uS x) (uD x) 0 (uO x)∧uK (x-64)=uK x∧uC (x-64)=uC x∧uN (x-64)=uN x∧uS (x-64)=uS x∧uD (x-64)=uD x∧uG (x-64)=0∧uO (x-64)=uO x:=by
 have e0:uK (x-64)=uK x:=by unfold uK;omega
 have e1:uC (x-64)=uC x:=by unfold uC;omega
 have e2:uN (x-64)=uN x:=by unfold uN;omega
 have e3:uS (x-64)=uS x:=by unfold uS;omega
 have e4:uD (x-64)=uD x:=by unfold uD;omega
 have e5:uG (x-64)=0:=by unfold uG at hg ⊢;omega
 have h7:=h.2.1
 have e6:uO (x-64)=uO x:=by unfold uO;unfold uG at hg;omega
 have r:=h.1
 have hr:aQ (uK x) (uC x) (uN x) (uS x) (uD x) 0 (uO x):=by
  unfold aM at hk
  exact⟨r.1,r.2.1,r.2.2.1,r.2.2.2.1,r.2.2.2.2.1,r.2.2.2.2.2.1,r.2.2.2.2.2.2.1,by omega,fun h=>by omega⟩
 refine⟨⟨by rw[e0,e1,e2,e3,e4,e5,e6];exact hr,by unfold uG at hg;omega,by have:=h.2.2;unfold uG at hg;omega⟩,?_,hr,e0,e1,e2,e3,e4,e5,e6⟩
 have hp:=h.pack
 rw[hg] at hp
 unfold aU at hp ⊢
 omega
def uQ:List Nat→Int→Int
 |[],z=>z
 |b::_,_=>(b:Int)+1
def zA:List Nat→Int→Int
 |[],a=>a
 |b::t,_=>zA t ((b:Int)+1)
theorem GA(l:List Nat):uQ l 0=iG l:=by cases l<;>rfl
theorem EE(l:List Nat)(b:Nat)(a:Int):zA (l++[b]) a=(b:Int)+1:=by
 induction l generalizing a with
 |nil=>rfl
 |cons x t ih=>exact ih _
theorem pQ(l:List Nat):zA l 0=jb l:=by
 rcases List.eq_nil_or_concat l with rfl|⟨t,x,rfl⟩
 ·rfl
 ·rw[List.concat_eq_append,EE,iP]
theorem zm(l1 l2:List Nat)(z:Int):uQ (l1++l2) z=uQ l1 (uQ l2 z):=by cases l1<;>rfl
theorem qE(l1 l2:List Nat)(a:Int):zA (l1++l2) a=zA l2 (zA l1 a):=by
 induction l1 generalizing a with
 |nil=>rfl
 |cons x t ih=>exact ih _
def Seg(c:Cf)(zs:List Int):Int→List Nat→Int→Prop
 |_,[],_=>True
 |a,b::t,z=>nth zs (adr c b 6)=a∧nth zs (adr c b 7)=uQ t z∧Seg c zs ((b:Int)+1) t z
theorem Seg.congr{c:Cf}{zs zs':List Int}{l:List Nat}{a z:Int}(h:Seg c zs a l z)(hc:∀b,b∈l→nth zs' (adr c b 6)=nth zs (adr c b 6)∧nth zs' (adr c b 7)=nth zs (adr c b 7)):Seg c zs' a l z:=by
 induction l generalizing a with
 |nil=>trivial
 |cons b t ih=>exact⟨by rw[(hc b (by simp)).1];exact h.1,by rw[(hc b (by simp)).2];exact h.2.1,ih h.2.2 (fun x hx=>hc x (by simp[hx]))⟩
theorem fM{c:Cf}{zs:List Int}{l1 l2:List Nat}{a z:Int}:Seg c zs a (l1++l2) z↔Seg c zs a l1 (uQ l2 z)∧Seg c zs (zA l1 a) l2 z:=by
 induction l1 generalizing a with
 |nil=>exact⟨fun h=>⟨trivial,h⟩,fun h=>h.2⟩
 |cons b t ih=>
  show(nth zs (adr c b 6)=a∧nth zs (adr c b 7)=uQ (t++l2) z∧Seg c zs ((b:Int)+1) (t++l2) z)↔(nth zs (adr c b 6)=a∧nth zs (adr c b 7)=uQ t (uQ l2 z)∧Seg c zs ((b:Int)+1) t (uQ l2 z))∧Seg c zs (zA t ((b:Int)+1)) l2 z
  rw[ih,zm]
  exact⟨fun h=>⟨⟨h.1,h.2.1,h.2.2.1⟩,h.2.2.2⟩,fun h=>⟨h.1.1,h.1.2.1,h.1.2.2,h.2⟩⟩
structure RingAt (c:Cf) (zs:List Int) (l:List Nat):Prop where
 r7:nth zs 7=iG l
 r8:nth zs 8=jb l
 r9:nth zs 9=(l.length:Int)
 lt:∀b,b∈l→b<c.N
 nd:l.Nodup
 seg:Seg c zs 0 l 0
 tok:∀b,b<c.N→bA (nth zs (adr c b 0))
 hd:∀b,b∈l→aM (nth zs (adr c b 0))
 mrk:∀b,b<c.N→(uG (nth zs (adr c b 0))=1↔b∈l)
theorem RingAt.NA{c:Cf}{zs:List Int}{l:List Nat}(h:RingAt c zs l){b:Nat}(hb:b<c.N)(hn:b∉l):uG (nth zs (adr c b 0))=0:=by
 rcases Jc (nth zs (adr c b 0)) with h0|h1
 ·exact h0
 ·exact absurd ((h.mrk b hb).1 h1) hn
theorem RingAt.split{c:Cf}{zs:List Int}{l1 l2:List Nat}{b:Nat}(h:RingAt c zs (l1++b::l2)):nth zs (adr c b 6)=jb l1∧nth zs (adr c b 7)=iG l2:=by
 have:=(fM.1 h.seg).2
 exact⟨by rw[this.1,pQ],by rw[this.2.1,GA]⟩
theorem Aq{l:List Nat}{b:Nat}(h:b∈l):∃l1 l2,l=l1++b::l2:=List.append_of_mem h
def dz(c:Cf)(b:Nat)(zs:List Int)(i:Nat):Int:=
 if i=7 then(if nth zs 8=0 then(b:Int)+1 else nth zs 7) else if i=8 then(b:Int)+1 else if i=9 then nth zs 9+1
 else if i=adr c b 0 then nth zs (adr c b 0)+64 else if i=adr c b 6 then nth zs 8 else if i=adr c b 7 then 0
 else if nth zs 8≠0∧i=adr c (nth zs 8-1).toNat 7 then(b:Int)+1 else nth zs i
def bN(c:Cf)(b:Nat)(zs:List Int)(i:Nat):Int:=
 if i=7 then(if nth zs (adr c b 6)=0 then nth zs (adr c b 7) else nth zs 7) else if i=8 then(if nth zs (adr c b 7)=0 then nth zs (adr c b 6) else nth zs 8) else if i=9 then nth zs 9-1
 else if i=adr c b 0 then nth zs (adr c b 0)-64 else if i=adr c b 6 then 0 else if i=adr c b 7 then 0
 else if nth zs (adr c b 6)≠0∧i=adr c (nth zs (adr c b 6)-1).toNat 7 then nth zs (adr c b 7)
 else if nth zs (adr c b 7)≠0∧i=adr c (nth zs (adr c b 7)-1).toNat 6 then nth zs (adr c b 6) else nth zs i
def aI(c:Cf)(b:Nat)(zs:List Int):List Int:=DD zs.length (dz c b zs)
def aC(c:Cf)(b:Nat)(zs:List Int):List Int:=DD zs.length (bN c b zs)
theorem kS(c:Cf)(b:Nat)(zs:List Int):(aI c b zs).length=zs.length:=eP _ _
theorem kT(c:Cf)(b:Nat)(zs:List Int):(aC c b zs).length=zs.length:=eP _ _
theorem dX{c:Cf}(hm:c.May){a b u v:Nat}(hu:u<16)(hv:v<16):(adr c a u=adr c b v)↔(a=b∧u=v):=by
 have:=hm.w
 exact⟨fun h=>ah (by omega) (by omega) h,fun h=>by rw[h.1,h.2]⟩
theorem dY{c:Cf}(hm:c.May){b u:Nat}(hb:b<c.N)(hu:u<16):adr c b u<c.size:=by
 have:=hm.w
 exact cB hb (by omega)
section
variable {c:Cf} {zs:List Int} {b:Nat} {l:List Nat}
theorem RingAt.add(h:RingAt c zs l)(hm:c.May)(hz:zs.length=c.size)(hb:b<c.N)(hn:b∉l)(hk:aM (nth zs (adr c b 0))):RingAt c (aI c b zs) (l++[b]):=by
 have hs:=hm.size
 have g:∀i,i<c.size→nth (aI c b zs) i=dz c b zs i:=fun i hi=>bu _ (by omega)
 have hR:∀(x u r:Nat),r<24→¬adr c x u=r:=fun x u r hr=>aO hr
 have hR':∀(x u r:Nat),r<24→¬r=adr c x u:=fun x u r hr=>rq hr
 have g0:∀x,x<c.N→nth (aI c b zs) (adr c x 0)=if x=b then nth zs (adr c b 0)+64 else nth zs (adr c x 0):=fun x hx=>by
  rw[g _ (dY hm hx (by omega))]
  unfold dz
  simp[hR,dX hm]
 have g6:∀x,x<c.N→nth (aI c b zs) (adr c x 6)=if x=b then nth zs 8 else nth zs (adr c x 6):=fun x hx=>by
  rw[g _ (dY hm hx (by omega))]
  unfold dz
  simp[hR,dX hm]
 have g7:∀x,x<c.N→nth (aI c b zs) (adr c x 7)=if x=b then 0 else if nth zs 8≠0∧x=(nth zs 8-1).toNat then(b:Int)+1 else nth zs (adr c x 7):=fun x hx=>by
  rw[g _ (dY hm hx (by omega))]
  unfold dz
  simp[hR,dX hm]
 have ht:=h.tok b hb
 have hg0:=h.NA hb hn
 obtain⟨t1,_,_,k1,_,_,_,_,g1,_⟩:=ht.Lm hk hg0
 refine⟨?_,?_,?_,?_,?_,?_,?_,?_,?_⟩
 ·rw[g _ (by omega)];unfold dz;rw[if_pos rfl,h.r8,h.r7,vY]
  by_cases e:l=[]
  ·subst e;rfl
  ·rw[if_neg (fun h=>e (mq h)),if_neg e]
 ·rw[g _ (by omega)];unfold dz;rw[if_neg (by omega),if_pos rfl,iP]
 ·rw[g _ (by omega)];unfold dz;rw[if_neg (by omega),if_neg (by omega),if_pos rfl,h.r9];simp
 ·intro x hx
  rcases List.mem_append.1 hx with hx|hx
  ·exact h.lt x hx
  ·simp at hx;subst hx;exact hb
 ·rw[List.nodup_append]
  exact⟨h.nd,by simp,fun x hx y hy=>by simp at hy;subst hy;exact fun e=>hn (by rw[←e];exact hx)⟩
 ·rw[fM]
  refine⟨?_,⟨by rw[g6 b hb,if_pos rfl,h.r8,pQ],by rw[g7 b hb,if_pos rfl];rfl,trivial⟩⟩
  show Seg c _ 0 l ((b:Int)+1)
  rcases List.eq_nil_or_concat l with rfl|⟨t,x,rfl⟩
  ·trivial
  ·rw[List.concat_eq_append] at h hn ⊢
   have hx:=h.lt x (by simp)
   have hxb:x≠b:=fun e=>hn (by simp[e])
   have h8:nth zs 8=(x:Int)+1:=by rw[h.r8,iP]
   have hnd:=List.nodup_append.1 h.nd
   obtain⟨s1,s2,s3,_⟩:=fM.1 h.seg
   rw[fM]
   refine⟨s1.congr (fun y hy=> ?_),?_,?_,trivial⟩
   ·have hyN:=h.lt y (by simp[hy])
    have hyb:y≠b:=fun e=>hn (by simp[←e,hy])
    have hyx:y≠x:=fun e=>hnd.2.2 y hy x (by simp) e
    rw[g6 y hyN,if_neg hyb,g7 y hyN,if_neg hyb,h8,if_neg (by omega)]
    exact⟨rfl,rfl⟩
   ·rw[g6 x hx,if_neg hxb];exact s2
   ·rw[g7 x hx,if_neg hxb,h8,if_pos ⟨by omega,by omega⟩];rfl
 ·intro x hx
  rw[g0 x hx]
  by_cases e:x=b
  ·rw[if_pos e];exact t1
  ·rw[if_neg e];exact h.tok x hx
 ·intro x hx
  rcases List.mem_append.1 hx with hx|hx
  ·have:x≠b:=fun e=>hn (by rw[←e];exact hx)
   rw[g0 x (h.lt x hx),if_neg this];exact h.hd x hx
  ·simp at hx;subst hx
   rw[g0 x hb,if_pos rfl];unfold aM at hk ⊢;rw[k1];exact hk
 ·intro x hx
  rw[g0 x hx]
  by_cases e:x=b
  ·rw[if_pos e,g1];simp[e]
  ·rw[if_neg e,h.mrk x hx];simp[e]
theorem RingAt.cut{l1 l2:List Nat}(h:RingAt c zs (l1++b::l2))(hm:c.May)(hz:zs.length=c.size):RingAt c (aC c b zs) (l1++l2):=by
 have hs:=hm.size
 have hb:=h.lt b (by simp)
 have g:∀i,i<c.size→nth (aC c b zs) i=bN c b zs i:=fun i hi=>bu _ (by omega)
 have hR:∀(x u r:Nat),r<24→¬adr c x u=r:=fun x u r hr=>aO hr
 obtain⟨hp,hq⟩:=h.split
 have g0:∀x,x<c.N→nth (aC c b zs) (adr c x 0)=if x=b then nth zs (adr c b 0)-64 else nth zs (adr c x 0):=fun x hx=>by
  rw[g _ (dY hm hx (by omega))]
  unfold bN
  simp[hR,dX hm]
 have g6:∀x,x<c.N→nth (aC c b zs) (adr c x 6)=if x=b then 0 else if iG l2≠0∧x=(iG l2-1).toNat then jb l1 else nth zs (adr c x 6):=fun x hx=>by
  rw[g _ (dY hm hx (by omega))]
  unfold bN
  rw[hp,hq]
  simp[hR,dX hm]
 have g7:∀x,x<c.N→nth (aC c b zs) (adr c x 7)=if x=b then 0 else if jb l1≠0∧x=(jb l1-1).toNat then iG l2 else nth zs (adr c x 7):=fun x hx=>by
  rw[g _ (dY hm hx (by omega))]
  unfold bN
  rw[hp,hq]
  simp[hR,dX hm]
 have ht:=h.tok b hb
 have hg1:=(h.mrk b hb).2 (by simp)
 obtain⟨t1,_,_,k1,_,_,_,_,g1,_⟩:=ht.Ll (h.hd b (by simp)) hg1
 have hnd:=h.nd
 rw[List.nodup_append] at hnd
 obtain⟨n1,n2,n3⟩:=hnd
 obtain⟨n4,n5⟩:=List.nodup_cons.1 n2
 have hb1:b∉l1:=fun hx=>n3 b hx b (by simp) rfl
 have n6:∀x,x∈l1→x∉l2:=fun x hx hy=>n3 x hx x (by simp[hy]) rfl
 have hmem:∀x,x∈l1++l2→x∈l1++b::l2:=fun x hx=>by
  rcases List.mem_append.1 hx with hx|hx
  ·simp[hx]
  ·simp[hx]
 have hne:∀x,x∈l1++l2→x≠b:=fun x hx e=>by
  rcases List.mem_append.1 hx with hx|hx
  ·exact hb1 (by rw[←e];exact hx)
  ·exact n4 (by rw[←e];exact hx)
 obtain⟨s1,s2⟩:=fM.1 h.seg
 obtain⟨s3,s4,s5⟩:=s2
 have hf2:∀x,iG l2≠0∧x=(iG l2-1).toNat→x∈l2:=by
  rintro x ⟨h1,h2⟩
  cases l2 with
  |nil=>exact absurd rfl h1
  |cons y t=>
   have:iG (y::t)=(y:Int)+1:=rfl
   rw[this] at h2
   have:x=y:=by omega
   rw[this];simp
 have hl1:∀x,jb l1≠0∧x=(jb l1-1).toNat→x∈l1:=by
  rintro x ⟨h1,h2⟩
  obtain⟨y,hy,he⟩:=fE l1 (fun e=>h1 (by rw[e];rfl))
  rw[he] at h2
  have:x=y:=by omega
  rw[this];exact hy
 refine⟨?_,?_,?_,?_,?_,?_,?_,?_,?_⟩
 ·rw[g _ (by omega)];unfold bN;rw[if_pos rfl,hp,hq,h.r7]
  cases l1 with
  |nil=>rfl
  |cons x t=>rw[if_neg (fun e=>absurd (mq e) (by simp))];rfl
 ·rw[g _ (by omega)];unfold bN;rw[if_neg (by omega),if_pos rfl,hp,hq,h.r8,←pQ,←pQ,←pQ,qE,qE]
  cases l2 with
  |nil=>rfl
  |cons y t=>rw[if_neg (show ¬(iG (y::t)=0) from fun e=>absurd (show((y:Int)+1)=0 from e) (by omega))];rfl
 ·rw[g _ (by omega)];unfold bN;rw[if_neg (by omega),if_neg (by omega),if_pos rfl,h.r9];simp;omega
 ·intro x hx;exact h.lt x (hmem x hx)
 ·rw[List.nodup_append]
  exact⟨n1,n5,fun x hx y hy e=>n6 x hx (by rw[e];exact hy)⟩
 ·rw[fM]
  constructor
  ·rw[GA]
   rcases List.eq_nil_or_concat l1 with rfl|⟨t,x,rfl⟩
   ·trivial
   ·rw[List.concat_eq_append] at*
    have hx:=h.lt x (by simp)
    have hxb:=hne x (by simp)
    have hl:jb (t++[x])=(x:Int)+1:=iP t x
    have hnt:=List.nodup_append.1 n1
    rw[fM] at s1 ⊢
    obtain⟨u1,u2,u3,_⟩:=s1
    refine⟨u1.congr (fun y hy=> ?_),?_,?_,trivial⟩
    ·have hyN:=h.lt y (by simp[hy])
     have hyb:=hne y (by simp[hy])
     have hyx:y≠x:=fun e=>hnt.2.2 y hy x (by simp) e
     rw[g6 y hyN,if_neg hyb,if_neg (fun e=>n6 y (by simp[hy]) (hf2 y e)),g7 y hyN,if_neg hyb,hl,if_neg (by omega)]
     exact⟨rfl,rfl⟩
    ·rw[g6 x hx,if_neg hxb,if_neg (fun e=>n6 x (by simp) (hf2 x e))];exact u2
    ·rw[g7 x hx,if_neg hxb,hl,if_pos ⟨by omega,by omega⟩];rfl
  ·cases l2 with
   |nil=>trivial
   |cons y t=>
    have hy:=h.lt y (by simp)
    have hyb:=hne y (by simp)
    have hy1:y∉l1:=fun e=>n6 y e (by simp)
    obtain⟨v1,v2,v3⟩:=s5
    have hnt:=List.nodup_cons.1 n5
    have hf:iG (y::t)=(y:Int)+1:=rfl
    refine⟨?_,?_,v3.congr (fun x hx=> ?_)⟩
    ·rw[g6 y hy,if_neg hyb,hf,if_pos ⟨by omega,by omega⟩,pQ]
    ·rw[g7 y hy,if_neg hyb,if_neg (fun e=>hy1 (hl1 y e))];exact v2
    ·have hxN:=h.lt x (by simp[hx])
     have hxb:=hne x (by simp[hx])
     have hxy:x≠y:=fun e=>hnt.1 (by rw[←e];exact hx)
     rw[g6 x hxN,if_neg hxb,hf,if_neg (by omega),g7 x hxN,if_neg hxb,if_neg (fun e=>n6 x (hl1 x e) (by simp[hx]))]
     exact⟨rfl,rfl⟩
 ·intro x hx
  rw[g0 x hx]
  by_cases e:x=b
  ·rw[if_pos e];exact t1
  ·rw[if_neg e];exact h.tok x hx
 ·intro x hx
  rw[g0 x (h.lt x (hmem x hx)),if_neg (hne x hx)];exact h.hd x (hmem x hx)
 ·intro x hx
  rw[g0 x hx]
  by_cases e:x=b
  ·rw[if_pos e,g1,e]
   exact⟨fun h=>absurd h (by decide),fun h=>absurd rfl (hne b h)⟩
  ·rw[if_neg e,h.mrk x hx];simp[e]
theorem lT(hm:c.May)(hz:zs.length=c.size){x:Nat}(hx:x<c.N):nth (aI c b zs) (adr c x 0)=if x=b then nth zs (adr c b 0)+64 else nth zs (adr c x 0):=by
 have hR:∀(x u r:Nat),r<24→¬adr c x u=r:=fun x u r hr=>aO hr
 rw[show nth (aI c b zs) (adr c x 0)=dz c b zs (adr c x 0) from bu _ (by rw[hz];exact dY hm hx (by omega))]
 unfold dz
 simp[hR,dX hm]
theorem lU(hm:c.May)(hz:zs.length=c.size){x:Nat}(hx:x<c.N):nth (aC c b zs) (adr c x 0)=if x=b then nth zs (adr c b 0)-64 else nth zs (adr c x 0):=by
 have hR:∀(x u r:Nat),r<24→¬adr c x u=r:=fun x u r hr=>aO hr
 rw[show nth (aC c b zs) (adr c x 0)=bN c b zs (adr c x 0) from bu _ (by rw[hz];exact dY hm hx (by omega))]
 unfold bN
 simp[hR,dX hm]
def nI(c:Cf)(l:List Nat)(b i:Nat):Prop:=i≠7∧i≠8∧i≠9∧i≠adr c b 0∧∀x,(x=b∨x∈l)→i≠adr c x 6∧i≠adr c x 7
theorem il(h:RingAt c zs l)(hz:zs.length=c.size){i:Nat}(hi:nI c l b i):nth (aI c b zs) i=nth zs i:=by
 obtain⟨h7,h8,h9,h0,hx⟩:=hi
 by_cases hlt:i<zs.length
 ·rw[show nth (aI c b zs) i=dz c b zs i from bu _ hlt]
  unfold dz
  rw[if_neg h7,if_neg h8,if_neg h9,if_neg h0,if_neg (hx b (Or.inl rfl)).1,if_neg (hx b (Or.inl rfl)).2,if_neg]
  rintro⟨e1,e2⟩
  rw[h.r8] at e1 e2
  obtain⟨y,hy,he⟩:=fE l (fun e=>e1 (by rw[e];rfl))
  rw[he] at e2
  exact(hx y (Or.inr hy)).2 (by rw[e2];congr 1;omega)
 ·rw[aY (by rw[kS];omega),aY (by omega)]
theorem iq{l1 l2:List Nat}(h:RingAt c zs (l1++b::l2))(hz:zs.length=c.size){i:Nat}(hi:nI c (l1++l2) b i):nth (aC c b zs) i=nth zs i:=by
 obtain⟨h7,h8,h9,h0,hx⟩:=hi
 obtain⟨hp,hq⟩:=h.split
 by_cases hlt:i<zs.length
 ·rw[show nth (aC c b zs) i=bN c b zs i from bu _ hlt]
  unfold bN
  rw[if_neg h7,if_neg h8,if_neg h9,if_neg h0,if_neg (hx b (Or.inl rfl)).1,if_neg (hx b (Or.inl rfl)).2,hp,hq,if_neg,if_neg]
  ·rintro⟨e1,e2⟩
   cases l2 with
   |nil=>exact e1 rfl
   |cons y t=>
    have:iG (y::t)=(y:Int)+1:=rfl
    rw[this] at e2
    exact(hx y (Or.inr (by simp))).1 (by rw[e2];congr 1;omega)
  ·rintro⟨e1,e2⟩
   obtain⟨y,hy,he⟩:=fE l1 (fun e=>e1 (by rw[e];rfl))
   rw[he] at e2
   exact(hx y (Or.inr (by simp[hy]))).2 (by rw[e2];congr 1;omega)
 ·rw[aY (by rw[kT];omega),aY (by omega)]
theorem Ae(hm:c.May)(hz:zs.length=c.size)(hb:b<c.N):nth (aC c b zs) (adr c b 6)=0∧nth (aC c b zs) (adr c b 7)=0:=by
 have hR:∀(x u r:Nat),r<24→¬adr c x u=r:=fun x u r hr=>aO hr
 rw[show nth (aC c b zs) (adr c b 6)=bN c b zs (adr c b 6) from bu _ (by rw[hz];exact dY hm hb (by omega)),show nth (aC c b zs) (adr c b 7)=bN c b zs (adr c b 7) from bu _ (by rw[hz];exact dY hm hb (by omega))]
 unfold bN
 simp[hR,dX hm]
end
structure aV (c:Cf) (zs:List Int) (l:List Nat):Prop where
 ch:aA c zs 0 l
 fr:∀b,b∈l→nth zs (adr c b 0)=0
def gM(c:Cf)(b i:Nat):Prop:=adr c b 0≤i∧i<adr c b 0+c.W
theorem mh{c:Cf}{b v:Nat}(hv:v<c.W):gM c b (adr c b v):=by unfold gM adr;omega
theorem GU{c:Cf}{b i:Nat}(h:gM c b i):∃v,v<c.W∧i=adr c b v:=⟨i-adr c b 0,by unfold gM at h;omega,by unfold gM at h;unfold adr at *;omega⟩
theorem jK{c:Cf}{b r:Nat}(hr:r<24):¬gM c b r:=by unfold gM adr;omega
theorem fC{c:Cf}{a b v:Nat}(h:a≠b)(hv:v<c.W):¬gM c b (adr c a v):=by
 intro hb
 obtain⟨u,hu,e⟩:=GU hb
 exact h (ah hv hu e).1
theorem eX(c:Cf)(b:Nat):eO c b=adr c b 5:=rfl
instance (c:Cf) (b i:Nat):Decidable (gM c b i):=by unfold gM;infer_instance
def aL(c:Cf)(b:Nat)(zs zs':List Int):Prop:=zs'.length=zs.length∧∀i,¬gM c b i→nth zs' i=nth zs i
theorem aL.refl(c:Cf)(b:Nat)(zs:List Int):aL c b zs zs:=⟨rfl,fun _ _=>rfl⟩
theorem aL.trans{c:Cf}{b:Nat}{x y z:List Int}(h:aL c b x y)(k:aL c b y z):aL c b x z:=⟨k.1.trans h.1,fun i hi=>(k.2 i hi).trans (h.2 i hi)⟩
theorem aL.set{c:Cf}{b v:Nat}{zs:List Int}(hv:v<c.W)(x:Int):aL c b zs (zs.set (adr c b v) x):=
 ⟨by simp,fun i hi=>aa (fun e=>hi (by rw[←e];exact mh hv)) x⟩
theorem aA.only{c:Cf}{zs zs':List Int}{k b:Nat}{l:List Nat}(h:aA c zs k l)(hm:c.May)(hk:k<2)(hb:b∉l)(ho:aL c b zs zs'):aA c zs' k l:=by
 have hw:=hm.w
 refine h.congr (ho.2 _ (jK (by omega))) (ho.2 _ (jK (by omega))) (ho.2 _ (jK (by omega))) (fun x hx=>ho.2 _ ?_)
 rw[eX]
 exact fC (fun e=>hb (by rw[←e];exact hx)) (by omega)
theorem aV.only{c:Cf}{zs zs':List Int}{b:Nat}{l:List Nat}(h:aV c zs l)(hm:c.May)(hb:b∉l)(ho:aL c b zs zs'):aV c zs' l:=by
 have hw:=hm.w
 refine⟨h.ch.only hm (by omega) hb ho,fun x hx=> ?_⟩
 rw[ho.2 _ (fC (fun e=>hb (by rw[←e];exact hx)) (by omega))]
 exact h.fr x hx
def wP(c:Cf)(b:Nat)(zs:List Int)(i:Nat):Int:=if gM c b i then 0 else takeN c 0 b zs i
def bf(c:Cf)(b:Nat)(zs:List Int):List Int:=DD zs.length (wP c b zs)
def aG(c:Cf)(b:Nat)(zs:List Int):List Int:=lN c 0 b (zs.set (adr c b 0) 0)
theorem dx(c:Cf)(b:Nat)(zs:List Int):(bf c b zs).length=zs.length:=eP _ _
theorem pX(c:Cf)(b:Nat)(zs:List Int):(aG c b zs).length=zs.length:=by unfold aG;rw[ow];simp
def lu(c:Cf)(zs:List Int):Prop:=aV c zs (List.range c.N)∧∀i,¬i<3→(∀b,b<c.N→i≠adr c b 5)→nth zs i=0
section
variable {c:Cf} {zs:List Int} {b:Nat} {l:List Nat}
theorem kG(hz:zs.length=c.size){i:Nat}(hi:i<c.size):nth (bf c b zs) i=if gM c b i then 0 else nth (di c 0 b zs) i:=by
 rw[show nth (bf c b zs) i=wP c b zs i from bu _ (by omega),show nth (di c 0 b zs) i=takeN c 0 b zs i from bu _ (by omega)]
 rfl
theorem jE(hz:zs.length=c.size):aL c b (di c 0 b zs) (bf c b zs):=by
 refine⟨by rw[dx,bZ],fun i hi=> ?_⟩
 by_cases h:i<c.size
 ·rw[kG hz h,if_neg hi]
 ·rw[aY (by rw[dx];omega),aY (by rw[bZ];omega)]
theorem aV.take(h:aV c zs (b::l))(hm:c.May)(hz:zs.length=c.size):aV c (bf c b zs) l∧∀v,v<c.W→nth (bf c b zs) (adr c b v)=0:=by
 have hb:=h.ch.lt b (by simp)
 have hn:=(List.nodup_cons.1 h.ch.nd).1
 have hw:=hm.w
 obtain⟨h1,_⟩:=h.ch.take hm hz (by omega)
 refine⟨⟨h1.only hm (by omega) hn (jE hz),fun x hx=> ?_⟩,fun v hv=> ?_⟩
 ·have hxb:x≠b:=fun e=>hn (by rw[←e];exact hx)
  have hxN:=h.ch.lt x (by simp[hx])
  rw[(jE hz).2 _ (fC hxb (by omega))]
  rw[show nth (di c 0 b zs) (adr c x 0)=takeN c 0 b zs (adr c x 0) from bu _ (by rw[hz];exact cB hxN (by omega))]
  unfold takeN
  rw[if_neg (aO (by omega)),if_neg (aO (by omega)),if_neg (aO (by omega)),if_neg (by rw[eX,dX hm (by omega) (by omega)];omega)]
  exact h.fr x (by simp[hx])
 ·rw[kG hz (cB hb hv),if_pos (mh hv)]
theorem xU(hm:c.May)(hz:zs.length=c.size){i:Nat}(hi:¬gM c b i)(h3:¬i<3):nth (bf c b zs) i=nth zs i:=by
 rw[(jE hz).2 i hi]
 by_cases h:i<c.size
 ·rw[show nth (di c 0 b zs) i=takeN c 0 b zs i from bu _ (by omega)]
  unfold takeN
  have hw:=hm.w
  rw[if_neg (by omega),if_neg (by omega),if_neg (by omega),if_neg (fun e=>hi (by rw[e,eX];exact mh (by omega)))]
 ·rw[aY (by rw[bZ];omega),aY (by omega)]
theorem aV.give(h:aV c zs l)(hm:c.May)(hz:zs.length=c.size)(hb:b<c.N)(hn:b∉l):aV c (aG c b zs) (b::l)∧nth (aG c b zs) (adr c b 0)=0:=by
 have hw:=hm.w
 have h1:=h.only hm hn (aL.set (v:=0) (by omega) 0)
 have hz1:(zs.set (adr c b 0) 0).length=c.size:=by simp[hz]
 have g:∀x,x<c.N→nth (aG c b zs) (adr c x 0)=nth (zs.set (adr c b 0) 0) (adr c x 0):=fun x hx=>by
  unfold aG
  rw[show nth (lN c 0 b (zs.set (adr c b 0) 0)) (adr c x 0)=kR c 0 b (zs.set (adr c b 0) 0) (adr c x 0) from bu _ (by rw[hz1];exact cB hx (by omega))]
  unfold kR
  rw[if_neg (aO (by omega)),if_neg (aO (by omega)),if_neg (aO (by omega)),if_neg (by rw[eX,dX hm (by omega) (by omega)];omega)]
 have hb0:nth (aG c b zs) (adr c b 0)=0:=by rw[g b hb,av (by rw[hz];exact cB hb (by omega))]
 refine⟨⟨h1.ch.push hm hz1 (by omega) hb hn,fun x hx=> ?_⟩,hb0⟩
 rcases List.mem_cons.1 hx with rfl|hx
 ·exact hb0
 ·rw[g x (h.ch.lt x hx)];exact h1.fr x hx
theorem kF(hm:c.May)(hz:zs.length=c.size){i:Nat}(hi:i≠adr c b 0)(h5:i≠adr c b 5)(h3:¬i<3):nth (aG c b zs) i=nth zs i:=by
 unfold aG
 by_cases h:i<c.size
 ·rw[show nth (lN c 0 b (zs.set (adr c b 0) 0)) i=kR c 0 b (zs.set (adr c b 0) 0) i from bu _ (by simp;omega)]
  unfold kR
  rw[if_neg (by omega),if_neg (by omega),if_neg (by omega),if_neg (show ¬i=eO c b from h5),aa (fun e=>hi e.symm)]
 ·rw[aY (by rw[ow];simp;omega),aY (by omega)]
end
def cO(o:Option Nat):Nat:=match o with|some _=>1|none=>0
theorem St.Gb(s:St)(o:Option Nat):s.ask o=⟨s.zs,s.m+cO o⟩:=by cases o<;>rfl
theorem ry(o:Option Nat):cO o≤1:=by cases o<;>simp[cO]
def kK(c:Cf)(zs:List Int)(b:Int):Int:=(⟨zs,0⟩:St).at? (ak c b 0)
theorem tY{c:Cf}{zs:List Int}{b:Int}(h:¬(0≤b∧b<(c.N:Int))):kK c zs b=0:=by
 unfold kK ak iM
 rw[decide_eq_false h];rfl
theorem mF{c:Cf}{zs:List Int}{b:Nat}(hm:c.May)(h:b<c.N):kK c zs (b:Int)=nth zs (adr c b 0):=by
 unfold kK
 have:=dZ (c:=c) (b:=b) (v:=0) h (by have:=hm.w;omega)
 rw[show((0:Nat):Int)=0 from rfl] at this
 rw[this];rfl
theorem rJ(p:Pl)(c:Cf)(s:St)(b t:Int)(w:World)(hG:G w p c s)(ht:kK c s.zs b=t):
  Calls Tryz.prog 51 #[.pointer (some ⟨p.a,0,none⟩),.int .i64 b,.int .i64 0] w (GP w p c ⟨s.zs,s.m+cO (ak c b 0)⟩ (.int .u32 t)):=by
 subst ht
 have h:=uH p c s b 0 w hG
 rw[s.Gb] at h
 exact h
theorem yh{w:World}{p:Pl}{c:Cf}{s:St}(hG:G w p c s)(b:Int):0≤kK c s.zs b∧kK c s.zs b≤4294967295:=St.at?_wf (s:=⟨s.zs,0⟩) hG.wf _
end Go.Proofs.YtofhdfjkhfkhiaaGreat.Pk
