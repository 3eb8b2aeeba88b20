/-
  Sto: A store in memory: a struct of a slice of words and a meter; its words in a block of their own. No program in sight.
  RefSto: The document's store.
  Store: The program's store.
  MSto: Stores whose meter goes round at 2^64: get and put, both ways, however many accesses there were.
-/
import Derived.Test.YtjmifnljckmimaaGreatBaseEtc
import Derived.Laws.CopyOwn
import Derived.Laws.CopyRow
import Derived.Test.YtjmifnljckmimaaGreatProg
import Derived.IntWalk
import Derived.Outline
import Derived.Laws.MakeOwn
import Derived.OwnWalk
import Derived.Laws.LoneSync
import Derived.Laws.Pointers
namespace Go.Proofs.YtjmifnljckmimaaGreat.Pk
open Lib (hid)
open Go.RowKit
set_option linter.unusedVariables false
set_option linter.unusedSimpArgs false
def words(zs:List Int):Array Value:=(zs.map (Value.int .u32)).toArray
theorem Jy{zs:List Int}{i:Nat}(h:i<zs.length):(words zs)[i]? =some (.int .u32 (nth zs i)):=by
 unfold words nth;simp[List.getD,h]
theorem Jz(zs:List Int)(i:Nat)(v:Int):(words zs).setIfInBounds i (.int .u32 v)=words (zs.set i v):=by
 unfold words;simp[List.map_set]
structure oW (w:World) (t e:TypeId) (s g:Nat) (zs:List Int) (m:Int):Prop where
 head:Blk w s #[.slice (some ⟨g,0,none⟩) zs.length zs.length,.int .u64 m] t
 body:Blk w g (words zs) e
 apart:s≠g
def GD(s g:Nat):Nat→Prop:=fun k=>k=s∨k=g
theorem oW.touch{X:Nat→Prop}{w w':World}{t e:TypeId}{s g:Nat}{zs:List Int}{m:Int}(h:oW w t e s g zs m)(k:Touch X w w')(hs:¬X s)(hg:¬X g):oW w' t e s g zs m:=
 ⟨h.head.touch k hs,h.body.touch k hg,h.apart⟩
theorem oW.later{w w':World}{t e:TypeId}{s g:Nat}{zs:List Int}{m:Int}(h:oW w t e s g zs m)(k:Below w.heap.size w w'):oW w' t e s g zs m:=
 ⟨h.head.later k,h.body.later k,h.apart⟩
theorem oW.slice{w:World}{t e:TypeId}{s g:Nat}{zs:List Int}{m:Int}(h:oW w t e s g zs m):w.cell? ⟨s,0,none⟩=some (.slice (some ⟨g,0,none⟩) zs.length zs.length):=h.head.cell 0 rfl
theorem oW.meter{w:World}{t e:TypeId}{s g:Nat}{zs:List Int}{m:Int}(h:oW w t e s g zs m):w.cell? ⟨s,1,none⟩=some (.int .u64 m):=h.head.cell 1 rfl
theorem oW.word{w:World}{t e:TypeId}{s g:Nat}{zs:List Int}{m:Int}(h:oW w t e s g zs m){i:Nat}(hi:i<zs.length):w.cell? ⟨g,i,none⟩=some (.int .u32 (nth zs i)):=h.body.cell i (Jy hi)
theorem oW.count{w:World}{t e:TypeId}{s g:Nat}{zs:List Int}{m:Int}(h:oW w t e s g zs m)(m':Int):oW (w.setCell ⟨s,1,none⟩ (.int .u64 m')) t e s g zs m':=
 ⟨h.head.put 1 _ (by simp),h.body.other (p:=⟨s,1,none⟩) h.apart _,h.apart⟩
theorem oW.put{w:World}{t e:TypeId}{s g:Nat}{zs:List Int}{m:Int}(h:oW w t e s g zs m)(i:Nat)(v:Int):oW (w.setCell ⟨g,i,none⟩ (.int .u32 v)) t e s g (zs.set i v) m:=
 ⟨by rw[List.length_set];exact h.head.other (p:=⟨g,i,none⟩) (Ne.symm h.apart) _,h.body.put i _ (Jz zs i v),h.apart⟩
theorem oW.drew{w:World}{t e:TypeId}{s g:Nat}{zs:List Int}{m:Int}(h:oW w t e s g zs m):oW w.drew t e s g zs m:=⟨h.head.drew,h.body.drew,h.apart⟩
theorem oW.alloc{w:World}{t e:TypeId}{s g:Nat}{zs:List Int}{m:Int}(h:oW w t e s g zs m)(o:Obj):oW (w.alloc o) t e s g zs m:=⟨h.head.alloc o,h.body.alloc o,h.apart⟩
def Gi(w:World)(t e:TypeId)(s g:Nat)(zs:List Int)(m:Int)(v:Value)(en:Ending)(w':World):Prop:=
 en=.returned v∧oW w' t e s g zs m∧Touch (GD s g) w w'
theorem FN:(Tryz.prog.info? 119).map (fun i=>(i.zero,i.size,i.bytes))=some (some (.int .u32 0),1,4):=by kernel_rfl
theorem Fa(n:Nat):madeCells (Value.int .u32 0).cells (n*1)=words (List.replicate n 0):=by
 unfold words madeCells
 have e:∀x:Nat,(Value.int .u32 0).cells[x%(Value.int .u32 0).cells.size]! =Value.int .u32 0:=by
  intro x
  rw[show(Value.int .u32 0).cells= #[Value.int .u32 0] from rfl]
  simp[Nat.mod_one]
 simp only[e]
 apply Array.ext<;>simp
theorem Fe(n:Nat)(hn:n≤10000000)(w:World):(Instr.makeSlice 55 (.int .i64 (n:Int)) (.int .i64 (n:Int))).run Tryz.prog w=.ok (.slice (some ⟨w.heap.size,0,none⟩) n n) (w.alloc (.cells (words (List.replicate n 0)) 119)):=by
 obtain⟨i0,hi,hz0,hz1,hz2⟩:=info_parts FN
 have:=run_make w 55 119 i0 (.int .u32 0) Tryz.underlying55 hi hz0 .i64 .i64 (n:Int) (n:Int) (by omega) (Int.le_refl _) (by rw[hz2];omega) (by omega)
 rw[this,hz1,←Fa]
 simp
theorem zW(s g:Nat)(zs:List Int)(m:Int)(k:Nat)(w:World)(hS:oW w 135 119 s g zs m)(hk:k<zs.length):
  Calls Tryz.prog 186 #[.pointer (some ⟨s,0,none⟩),.int .i64 (k:Int)] w fun e w'=>e=.returned (.bool true)∧w=w':=by
 have c0:=hS.slice
 clear hS
 go_enter Tryz.func186,Tryz.ntmps186
 go_wp2
 go_ret
 exact⟨aH (by simp),rfl⟩
theorem Ll(s g:Nat)(zs:List Int)(m:Int)(k:Nat)(w:World)(hS:oW w 135 119 s g zs m)(hk:k<zs.length):
  Calls Tryz.prog 150 #[.pointer (some ⟨s,0,none⟩),.int .i64 (k:Int)] w fun e w'=>e=.returned (.int .u32 (nth zs k))∧w=w':=by
 have c0:=hS.slice
 have cw:=hS.word hk
 have HS:=hid hS
 clear hS
 go_enter Tryz.func150,Tryz.ntmps150
 go_wp2_with fail
 refine(zW s g zs m k _ HS.out hk).mono ?_
 rintro e w1 ⟨rfl,rfl⟩
 go_wp2_with fail
 go_ret
 exact⟨rfl,rfl⟩
def JH(w:World)(t e:TypeId)(n:Nat)(en:Ending)(w':World):Prop:=
 ∃s g,en=.returned (.tuple #[.pointer (some ⟨s,0,none⟩),.int .i64 0])∧oW w' t e s g (List.replicate n 0) 0∧w.heap.size≤s∧w.heap.size≤g∧Below w.heap.size w w'
theorem Ny(n:Nat)(w:World)(hn:n≤8388608):
  Calls Tryz.prog 91 #[.int .i64 (n:Int)] w (JH w 135 119 n):=by
 have hmk:=Fe n (by omega)
 go_enter Tryz.func91,Tryz.ntmps91
 go_wp2_with fail
 go_ret2
 refine⟨w.heap.size+1,w.heap.size,rfl,⟨?_,?_,by omega⟩,by omega,by omega,(below_new w _).alloc (by simp) _⟩
 ·have:=Blk.new (w.alloc (.cells (words (List.replicate n 0)) 119)) #[.slice (some ⟨w.heap.size,0,none⟩) n n,.int .u64 0] 135
  simpa using this
 ·exact(Blk.new w _ _).alloc _
def u64m(m:Nat):Int:=(m:Int)%18446744073709551616
theorem Jv(m:Nat):IntKind.u64.wrap (u64m m+1)=u64m (m+1):=by
 unfold IntKind.wrap u64m
 simp[IntKind.signed,IntKind.bits]
theorem Er(a:Addr)(m:Nat)(w:World)(hc:w.cell? a=some (.int .u64 (u64m m)))(hz:w.frozen? a=false):
  Calls Tryz.prog 187 #[.pointer (some a),.int .u64 1] w fun e w'=>e=.returned (.int .u64 (u64m (m+1)))∧w'=w.setCell a (.int .u64 (u64m (m+1))):=by
 have hadd:=run_call_add (P:=Tryz.prog) Tryz.func217 (by kernel_rfl) (by kernel_rfl) (by kernel_rfl) .u64 (by kernel_rfl) (y:=1) (s:=u64m (m+1)) hc hz (by simp[go_sem,Jv])
 clear hc hz
 go_enter Tryz.func187,Tryz.ntmps187
 go_wp2
 go_ret
 exact⟨rfl,rfl⟩
theorem CO(s g:Nat)(zs:List Int)(m:Nat)(k:Nat)(w:World)(hS:oW w 135 119 s g zs (u64m m))(hk:k<zs.length):
  Calls Tryz.prog 155 #[.pointer (some ⟨s,0,none⟩),.int .i64 (k:Int)] w (Gi w 135 119 s g zs (u64m (m+1)) (.int .u32 (nth zs k))):=by
 have c0:=hS.slice
 have c1:=hS.meter
 have cw:=hS.word hk
 have f1:=hS.head.free 1
 have hsg:=hS.apart
 have HS:=hid hS
 clear hS
 go_enter Tryz.func155,Tryz.ntmps155
 go_wp2_with fail
 refine(zW s g zs _ k _ HS.out hk).mono ?_
 rintro e w1 ⟨rfl,rfl⟩
 go_wp2_with fail
 refine(Er ⟨s,1,none⟩ m _ c1 f1).mono ?_
 rintro e w1 ⟨rfl,rfl⟩
 go_wp2_with fail
 go_ret
 exact⟨rfl,HS.out.count _,(Touch.refl _ _).setCell (p:=⟨s,1,none⟩) (fun _=>.inl rfl) _⟩
theorem vQ(s g:Nat)(zs:List Int)(m:Nat)(v:Int)(k:Nat)(w:World)(hS:oW w 135 119 s g zs (u64m m))(hk:k<zs.length):
  Calls Tryz.prog 143 #[.pointer (some ⟨s,0,none⟩),.int .i64 (k:Int),.int .u32 v] w (Gi w 135 119 s g (zs.set k v) (u64m (m+1)) (.bool true)):=by
 have c0:=hS.slice
 have c1:=hS.meter
 have cw:=hS.word hk
 have f1:=hS.head.free 1
 have fk:=hS.body.free k
 have hsg:=hS.apart
 have hgs:¬g=s:=fun e=>hsg e.symm
 have HS:=hid hS
 clear hS
 go_enter Tryz.func143,Tryz.ntmps143
 go_wp2_with fail
 refine(zW s g zs _ k _ HS.out hk).mono ?_
 rintro e w1 ⟨rfl,rfl⟩
 go_wp2_with fail
 refine(Er ⟨s,1,none⟩ m _ c1 f1).mono ?_
 rintro e w1 ⟨rfl,rfl⟩
 go_wp2_with fail
 go_ret
 exact⟨rfl,(HS.out.count _).put k v,((Touch.refl _ _).setCell (p:=⟨s,1,none⟩) (fun _=>.inl rfl) _).setCell (p:=⟨g,k,none⟩) (fun _=>.inr rfl) _⟩
end Go.Proofs.YtjmifnljckmimaaGreat.Pk
