/-
  Pieces of one proof, without what is not wanted: Lives08, Fair08, PathsCheap.
-/
import Derived.Test.YtlbjjkbppbmihaaGreatL03
import Derived.Test.YtlbjjkbppbmihaaGreatL04
import Derived.Test.YtlbjjkbppbmihaaGreatL05
import Derived.Test.YtlbjjkbppbmihaaGreatL06
import Derived.Test.YtlbjjkbppbmihaaGreatL09
import Derived.Test.YtlbjjkbppbmihaaGreatL12
set_option linter.unusedSimpArgs false
set_option linter.unusedVariables false
namespace Go.Proofs.YtlbjjkbppbmihaaGreat
open Go.RowKit
theorem reads_blk {w:World} {g:Nat} {cs:Array Value} {t:TypeId} {n cap size:Nat} {xs:List Value} (hk:Blk w g cs t) (hn:n≤100) (hx:xs.length=n * size) (hc:∀ j,j<n * size→cs[j]? = xs[j]?) :
  Reads w (.slice (some ⟨g,0,none⟩) n cap) size n xs :=
 ⟨some ⟨g,0,none⟩,cap,rfl,by omega,hx,fun _=>⟨g,0,rfl,hk.lt,fun j hj=>by
  rw [Nat.zero_add,hk.cell j]; exact hc j hj⟩⟩
section
variable {w:World} {ao:Option Addr} {cap:Nat} {l:List Fw}
end
def lvD:List Fw:=[⟨1,2,5⟩,⟨2,3,3⟩,⟨3,1,4⟩]
def lvL:List Fw:=[⟨1,2,2⟩,⟨3,1,1⟩]
theorem lvD_may:MayD lvD:=(mayD_iff lvD).1 (by decide)
theorem lvD_least:IsLeast lvD (nextD lvD (amD lvD)) 1∧leftL lvD (nextD lvD (amD lvD))=lvL :=
 ⟨⟨(RdInv.start lvD_may).step lvD_may (by decide +kernel),by decide +kernel⟩,by decide +kernel⟩
end Go.Proofs.YtlbjjkbppbmihaaGreat
namespace Go.Proofs.YtlbjjkbppbmihaaGreat
open Go.RowKit
def SumFAt (w:World) (l:List Fw) (s i:Value) (wr:World):Prop:=∃ k:Nat,k≤l.length∧i=.int .i64 k∧s=.int .i64 (sumN (amD l) k)∧wr=w
theorem sumN_next (g:Nat→Int) (n:Nat):sumN g (n + 1)=sumN g n + g n:=rfl
set_option maxHeartbeats 4000000 in
theorem sumF_any {w:World} {ao:Option Addr} {cap:Nat} {l:List Fw} (hr:DebtsIn w ao l) (hln:l.length≤240) (hb:∀ i,i<l.length→0≤(dbt l i).am∧(dbt l i).am≤1099511627776) :
  Calls Tryz.prog 19 #[.slice ao l.length cap] w fun e w'=>e=.returned (.int .i64 (sumN (amD l) l.length))∧w'=w:=by
 have HC:=Lib.hid hr
 have HB:=Lib.hid hb
 clear hr hb
 go_enter Tryz.func19,Tryz.ntmps19
 go_wp2_with fail
 go_loopw [3,4] (SumFAt w l) (fun _ i _=>l.length - (intOf i).toNat)
 case atStart=>exact ⟨0,by omega,rfl,rfl,rfl⟩
 case round =>
  obtain ⟨k,hk,rfl,rfl,rfl⟩:=hrel
  by_cases hkl:k<l.length
  ·have qk:decide ((k:Int)<(l.length:Int))=true:=by simpa using hkl
   have k0:(0:Int)≤(k:Int):=by omega
   have k1:(k:Int)<(l.length:Int):=by omega
   obtain ⟨b,off,rfl,hbw,hcell⟩:=HC.out (by omega)
   obtain ⟨_,_,e2⟩:=hcell k hkl
   obtain ⟨s0,s9⟩:=sumN_bd (g:=amD l) (B:=1099511627776) k (fun i hi=>HB.out i (by omega))
   have s8:sumN (amD l) k≤263882790666240:=by omega
   obtain ⟨n0,n9⟩:=HB.out k hkl
   have NX:=Lib.hid (show sumN (amD l) (k + 1)=sumN (amD l) k + (dbt l k).am from rfl)
   have HLT:=Lib.hid hkl
   generalize (dbt l k).am=n at *
   generalize sumN (amD l) k=s at *
   clear hcell s9
   go_wp2_with fail
   exact ⟨⟨k + 1,by have:=HLT.out; omega,by go_num,by rw [NX.out],rfl⟩,by simp [intOf]; have:=HLT.out; omega⟩
  ·have hkn:k=l.length:=by omega
   subst hkn
   have qk:decide (((l.length:Nat):Int)<(l.length:Int))=false:=by simp
   go_wp2_with fail
   go_ret
   exact ⟨rfl,rfl⟩
def ofN (l:List Fw) (a b:Int):Nat→Int
 | 0=>0
 | k + 1=>if (dbt l (l.length - (k + 1))).fr=a∧(dbt l (l.length - (k + 1))).tt=b then (dbt l (l.length - (k + 1))).am else ofN l a b k
def ofL (l:List Fw) (a b:Int):Int:=ofN l a b l.length
theorem ofN_next (l:List Fw) (a b:Int) {k:Nat} (hk:k<l.length):ofN l a b (l.length - k)=if (dbt l k).fr=a∧(dbt l k).tt=b then (dbt l k).am else ofN l a b (l.length - (k + 1)):=by
 rw [show l.length - k=(l.length - (k + 1)) + 1 by omega]
 show (if (dbt l (l.length - (l.length - (k + 1) + 1))).fr=a∧_ then _ else _)=_
 rw [show l.length - (l.length - (k + 1) + 1)=k by omega]
def OfAt (w:World) (l:List Fw) (a b:Int) (i:Value) (wr:World):Prop:=∃ k:Nat,k≤l.length∧i=.int .i64 k∧Hid (ofL l a b=ofN l a b (l.length - k))∧wr=w
set_option maxHeartbeats 4000000 in
theorem ofF_any {w:World} {ao:Option Addr} {cap:Nat} {l:List Fw} (hr:DebtsIn w ao l) (hln:l.length≤240) (a b:Int) :
  Calls Tryz.prog 57 #[.slice ao l.length cap,.int .u8 a,.int .u8 b] w fun e w'=>e=.returned (.int .i64 (ofL l a b))∧w'=w:=by
 have HC:=Lib.hid hr
 clear hr
 go_enter Tryz.func57,Tryz.ntmps57
 go_wp2_with fail
 go_loopw [7] (OfAt w l a b) (fun i _=>l.length - (intOf i).toNat)
 case atStart=>exact ⟨0,by omega,rfl,Lib.hid rfl,rfl⟩
 case round =>
  obtain ⟨k,hk,rfl,HO,rfl⟩:=hrel
  by_cases hkl:k<l.length
  ·have qk:decide ((k:Int)<(l.length:Int))=true:=by simpa using hkl
   have k0:(0:Int)≤(k:Int):=by omega
   have k1:(k:Int)<(l.length:Int):=by omega
   obtain ⟨g,off,rfl,hbw,hcell⟩:=HC.out (by omega)
   obtain ⟨e0,e1,e2⟩:=hcell k hkl
   have NX:=Lib.hid (HO.out.trans (ofN_next l a b hkl))
   have HLT:=Lib.hid hkl
   generalize dbt l k=x at *
   clear hcell
   by_cases h1:x.fr=a
   ·have q1:(x.fr==a)=true:=by simpa using h1
    by_cases h2:x.tt=b
    ·have q2:(x.tt==b)=true:=by simpa using h2
     have RS:Hid (ofL l a b=x.am):=Lib.hid (by rw [NX.out,if_pos ⟨h1,h2⟩])
     clear h1 h2
     go_wp2_with fail
     go_ret
     exact ⟨by rw [RS.out]; rfl,rfl⟩
    ·have q2:(x.tt==b)=false:=by simpa using h2
     have RS:Hid (ofL l a b=ofN l a b (l.length - (k + 1))):=Lib.hid (by rw [NX.out,if_neg (fun h=>h2 h.2)])
     clear h1 h2
     go_wp2_with fail
     exact ⟨⟨k + 1,by have:=HLT.out; omega,by go_num,RS,rfl⟩,by simp [intOf]; have:=HLT.out; omega⟩
   ·have q1:(x.fr==a)=false:=by simpa using h1
    have RS:Hid (ofL l a b=ofN l a b (l.length - (k + 1))):=Lib.hid (by rw [NX.out,if_neg (fun h=>h1 h.1)])
    clear h1
    go_wp2_with fail
    exact ⟨⟨k + 1,by have:=HLT.out; omega,by go_num,RS,rfl⟩,by simp [intOf]; have:=HLT.out; omega⟩
  ·have hkn:k=l.length:=by omega
   subst hkn
   have qk:decide (((l.length:Nat):Int)<(l.length:Int))=false:=by simp
   have RS:Hid (ofL l a b=0):=Lib.hid (by rw [HO.out,Nat.sub_self]; rfl)
   go_wp2_with fail
   go_ret
   exact ⟨by rw [RS.out]; rfl,rfl⟩
end Go.Proofs.YtlbjjkbppbmihaaGreat
namespace Go.Proofs.YtlbjjkbppbmihaaGreat
open Go.RowKit
def stL (l:List Fw) (k:Nat) (p:Int):Int:=sumN (fun i=>psD l p i (amD l i)) k
def stW (l m:List Fw) (k:Nat) (p:Int):Int:=stL l l.length p - stL m k p
theorem stL_next (l:List Fw) (k:Nat) (p:Int):stL l (k + 1) p=stL l k p + psD l p k (dbt l k).am:=rfl
theorem stL_bd {l:List Fw} (h:∀ i,i<l.length→0≤(dbt l i).am∧(dbt l i).am≤1099511627776) (p:Int):∀ k,k≤l.length → -(1099511627776 * (k:Int))≤stL l k p∧stL l k p≤1099511627776 * (k:Int)
 | 0,_=>by simp [stL,sumN]
 | k + 1,hk=>by
  have h1:=stL_bd h p k (by omega)
  have h2:=h k (by omega)
  rw [stL_next]
  unfold psD
  split <;> split <;> omega
theorem st_minus (s:Int→Int) (a b n:Int):upL (upL s a (s a - n)) b (upL s a (s a - n) b + n)=fun p=>s p + ((if b=p then n else 0) - (if a=p then n else 0)):=by
 funext p
 unfold upL
 by_cases h1:p=b
 ·subst h1
  rw [if_pos rfl,if_pos rfl]
  by_cases h2:p=a
  ·subst h2; rw [if_pos rfl,if_pos rfl]; omega
  ·rw [if_neg h2,if_neg (show ¬ a=p from fun h=>h2 h.symm)]; omega
 ·rw [if_neg h1,if_neg (show ¬ b=p from fun h=>h1 h.symm)]
  by_cases h2:p=a
  ·subst h2; rw [if_pos rfl,if_pos rfl]; omega
  ·rw [if_neg h2,if_neg (show ¬ a=p from fun h=>h2 h.symm)]; omega
theorem st_plus (s:Int→Int) (a b n:Int):upL (upL s a (s a + n)) b (upL s a (s a + n) b - n)=fun p=>s p - ((if b=p then n else 0) - (if a=p then n else 0)):=by
 funext p
 unfold upL
 by_cases h1:p=b
 ·subst h1
  rw [if_pos rfl,if_pos rfl]
  by_cases h2:p=a
  ·subst h2; rw [if_pos rfl,if_pos rfl]; omega
  ·rw [if_neg h2,if_neg (show ¬ a=p from fun h=>h2 h.symm)]; omega
 ·rw [if_neg h1,if_neg (show ¬ b=p from fun h=>h1 h.symm)]
  by_cases h2:p=a
  ·subst h2; rw [if_pos rfl,if_pos rfl]; omega
  ·rw [if_neg h2,if_neg (show ¬ a=p from fun h=>h2 h.symm)]; omega
structure FairI (l m:List Fw):Prop where
 lenL:l.length≤240
 lenM:m.length≤240
 okL:∀ i,i<l.length→(0≤(dbt l i).fr∧(dbt l i).fr≤16)∧(0≤(dbt l i).tt∧(dbt l i).tt≤16)∧1≤(dbt l i).am∧(dbt l i).am≤1099511627776∧(dbt l i).am≤ofL m (dbt l i).fr (dbt l i).tt
 okM:∀ i,i<m.length→(0≤(dbt m i).fr∧(dbt m i).fr≤16)∧(0≤(dbt m i).tt∧(dbt m i).tt≤16)∧0≤(dbt m i).am∧(dbt m i).am≤1099511627776
 stand:∀ p,stW l m m.length p=0
theorem zero_st:(∀ w,(zeroValue 100).run Tryz.prog w=.ok (.agg (ltA fun _=>0)) w)∧(Tryz.prog.info? 100).map (·.size)=some 17 :=
 zero_of_info (by kernel_rfl)
theorem equal_st0 (w:World):(Op.equalIn 10000 100 (.agg #[.int .i64 0,.int .i64 0,.int .i64 0,.int .i64 0,.int .i64 0,.int .i64 0,.int .i64 0,.int .i64 0,.int .i64 0,.int .i64 0,.int .i64 0,.int .i64 0,.int .i64 0,.int .i64 0,.int .i64 0,.int .i64 0,.int .i64 0]) (.agg #[.int .i64 0,.int .i64 0,.int .i64 0,.int .i64 0,.int .i64 0,.int .i64 0,.int .i64 0,.int .i64 0,.int .i64 0,.int .i64 0,.int .i64 0,.int .i64 0,.int .i64 0,.int .i64 0,.int .i64 0,.int .i64 0,.int .i64 0])).run Tryz.prog w=.ok true w:=by
 have hz:(#[.int .i64 0,.int .i64 0,.int .i64 0,.int .i64 0,.int .i64 0,.int .i64 0,.int .i64 0,.int .i64 0,.int .i64 0,.int .i64 0,.int .i64 0,.int .i64 0,.int .i64 0,.int .i64 0,.int .i64 0,.int .i64 0,.int .i64 0]:Array Value)=Array.replicate 17 (.int .i64 0):=rfl
 have h:=run_equalIn_cells (P:=Tryz.prog) 9999 100 2 17 Tryz.underlying100 (fun w=>by kernel_rfl) (fun w=>by kernel_rfl) #[.int .i64 0,.int .i64 0,.int .i64 0,.int .i64 0,.int .i64 0,.int .i64 0,.int .i64 0,.int .i64 0,.int .i64 0,.int .i64 0,.int .i64 0,.int .i64 0,.int .i64 0,.int .i64 0,.int .i64 0,.int .i64 0,.int .i64 0] #[.int .i64 0,.int .i64 0,.int .i64 0,.int .i64 0,.int .i64 0,.int .i64 0,.int .i64 0,.int .i64 0,.int .i64 0,.int .i64 0,.int .i64 0,.int .i64 0,.int .i64 0,.int .i64 0,.int .i64 0,.int .i64 0,.int .i64 0] rfl rfl (fun _=>true) (by
  intro i x y w hx hy
  rw [hz,Array.getElem?_replicate] at hx hy
  split at hx
  ·rename_i hi
   rw [if_pos hi] at hy
   cases hx; cases hy
   exact run_equalIn_int w 9998 2 .i64 .i64 0 0 Tryz.underlying2
  ·cases hx) w
 rw [show ((List.range 17).all fun _=>true)=true by decide] at h
 exact h
def FairAt (w:World) (l:List Fw) (i:Value) (wr:World):Prop:=∃ k:Nat,k≤l.length∧i=.int .i64 k∧Blk wr w.heap.size (ltA (stL l k)) 100∧Below w.heap.size w wr
def FairAt2 (w:World) (l m:List Fw) (i:Value) (wr:World):Prop:=∃ k:Nat,k≤m.length∧i=.int .i64 k∧Blk wr w.heap.size (ltA (stW l m k)) 100∧Below w.heap.size w wr
set_option maxHeartbeats 16000000 in
set_option maxRecDepth 100000 in
theorem fair_any {w:World} {ao bo:Option Addr} {ca cb:Nat} {l m:List Fw} (hl:DebtsIn w ao l) (hm:DebtsIn w bo m) (hF:FairI l m) :
  Calls Tryz.prog 23 #[.slice ao l.length ca,.slice bo m.length cb] w fun e w'=>e=.returned (.bool true)∧Below w.heap.size w w':=by
 have HL:=Lib.hid hl
 have HM:=Lib.hid hm
 have HF:=Lib.hid hF
 have hz:=zero_st.1
 have K0:=Lib.hid (Blk.new w (ltA fun _=>0) 100)
 have B0:=Lib.hid ((Below.refl w.heap.size w).alloc (Nat.le_refl _) (.cells (ltA fun _=>0) 100))
 have lnL:=hF.lenL
 have lnM:=hF.lenM
 clear hl hm hF
 go_enter Tryz.func23,Tryz.ntmps23
 go_wp2_with fail
 generalize w.alloc (.cells (ltA fun _=>0) 100)=W0 at K0 B0 ⊢
 clear hz
 go_loopw [6] (FairAt w l) (fun i _=>l.length - (intOf i).toNat)
 case atStart=>exact ⟨0,by omega,rfl,K0.out,B0.out⟩
 case round =>
  clear K0 B0
  obtain ⟨k,hk,rfl,hX,hB⟩:=hrel
  have KX:=Lib.hid hX
  have BB:=Lib.hid hB
  have hxl:=hX.lt
  clear hX hB
  by_cases hkl:k<l.length
  ·have qk:decide ((k:Int)<(l.length:Int))=true:=by simpa using hkl
   have k0:(0:Int)≤(k:Int):=by omega
   have k1:(k:Int)<(l.length:Int):=by omega
   obtain ⟨b,off,rfl,hbw,hcell⟩:=HL.out (by omega)
   obtain ⟨e0,e1,e2⟩:=hcell k hkl
   have d0:=(BB.out.cell (p:=⟨b,off + k * 3,none⟩) hbw).trans e0
   have d1:=(BB.out.cell (p:=⟨b,off + k * 3 + 1,none⟩) hbw).trans e1
   have d2:=(BB.out.cell (p:=⟨b,off + k * 3 + 2,none⟩) hbw).trans e2
   have hbr:=Nat.lt_of_lt_of_le hbw BB.out.size
   obtain ⟨⟨f0,f9⟩,⟨t0,t9⟩,n1,n9,hof⟩:=HF.out.okL k hkl
   have hsb:=fun p=>stL_bd (fun i hi=>⟨by have:=(HF.out.okL i hi).2.2.1; omega,(HF.out.okL i hi).2.2.2.1⟩) p k hk
   have SB:Hid (∀ p,-263882790666240≤stL l k p∧stL l k p≤263882790666240):=Lib.hid fun p=>by have:=hsb p; omega
   have NX:Hid (stL l (k + 1)=fun p=>stL l k p + ((if (dbt l k).tt=p then (dbt l k).am else 0) - (if (dbt l k).fr=p then (dbt l k).am else 0))):=Lib.hid rfl
   have CP:Hid (∀ w',Below w.heap.size w w'→Calls Tryz.prog 57 #[.slice bo m.length cb,.int .u8 (dbt l k).fr,.int .u8 (dbt l k).tt] w' fun e w''=>e=.returned (.int .i64 (ofL m (dbt l k).fr (dbt l k).tt))∧w''=w'):=Lib.hid fun w' hb=>ofF_any (HM.out.below hb) HF.out.lenM _ _
   obtain ⟨y,hy⟩:∃ y,ofL m (dbt l k).fr (dbt l k).tt=y:=⟨_,rfl⟩
   rw [hy] at hof CP
   generalize dbt l k=x at *
   generalize stL l k=s at *
   obtain ⟨fr,tt,am⟩:=x
   dsimp only at d0 d1 d2 f0 f9 t0 t9 n1 n9 hof CP NX
   have HLT:=Lib.hid hkl
   clear hcell e0 e1 e2 hsb hy
   have KY:=Lib.hid (Blk.new wr #[.int .u8 fr,.int .u8 tt,.int .i64 am] 62)
   have KZ:=Lib.hid (KX.out.alloc (.cells #[.int .u8 fr,.int .u8 tt,.int .i64 am] 62))
   have BZ:=Lib.hid (BB.out.alloc BB.out.size (.cells #[.int .u8 fr,.int .u8 tt,.int .i64 am] 62))
   have q1:decide (16<fr)=false:=by simp; omega
   have q2:decide (16<tt)=false:=by simp; omega
   have q3:decide (am<1)=false:=by simp; omega
   have q4:decide (y<am)=false:=by simp; omega
   go_upto_region 6 with fail
   have hY:wr.heap.size<(wr.alloc (.cells #[.int .u8 fr,.int .u8 tt,.int .i64 am] 62)).heap.size:=KY.out.lt
   have hXW:w.heap.size<(wr.alloc (.cells #[.int .u8 fr,.int .u8 tt,.int .i64 am] 62)).heap.size:=KZ.out.lt
   generalize wr.alloc (.cells #[.int .u8 fr,.int .u8 tt,.int .i64 am] 62)=W at *
   generalize wr.heap.size=Y at *
   have g0:=KY.out.cell 0
   have g1:=KY.out.cell 1
   have g2:=KY.out.cell 2
   simp at g0 g1 g2
   clear d0 d1 d2
   have CZ:=Lib.hid (fun n=>CP.out (W.drewN n) ⟨BZ.out.os,BZ.out.tape,BZ.out.output,BZ.out.size,BZ.out.block⟩)
   go_quiet (refine Calls.quiet_of_same (CZ.out _))
   have KY2:Blk (W.drewN nq) Y #[.int .u8 fr,.int .u8 tt,.int .i64 am] 62:=KY.out
   have KZ2:Blk (W.drewN nq) w.heap.size (ltA s) 100:=KZ.out
   have BZ2:Below w.heap.size w (W.drewN nq):=⟨BZ.out.os,BZ.out.tape,BZ.out.output,BZ.out.size,BZ.out.block⟩
   clear g0 g1 g2 hY hXW KY KZ BZ CZ CP q1 q2 q3 q4 hof
   generalize W.drewN nq=V at KY2 KZ2 BZ2 ⊢
   have g0:=KY2.cell 0
   have g1:=KY2.cell 1
   have g2:=KY2.cell 2
   have gl:=KY2.lt
   have zl:=KZ2.lt
   simp at g0 g1 g2
   have zd:=KZ2.ltAt (p:=fr) (by omega) (by omega)
   have zf:=KZ2.frozen fr.toNat
   obtain ⟨s0,s9⟩:=SB.out fr
   have KY3:=Lib.hid (KY2.setOther (a:=⟨w.heap.size,fr.toNat,none⟩) (by intro e; have e:Y=w.heap.size:=e; omega) (.int .i64 (s fr - am)))
   have KZ3:=Lib.hid (KZ2.ltSet (p:=fr) (by omega) (by omega) (s fr - am))
   have BZ3:=Lib.hid (BZ2.setCell (p:=⟨w.heap.size,fr.toNat,none⟩) (Nat.le_refl _) (.int .i64 (s fr - am)))
   clear KY2 KZ2 BZ2
   go_wp2_with fail
   go_region
   have KY4:Blk ((V.setCell ⟨w.heap.size,fr.toNat,none⟩ (.int .i64 (s fr - am))).drew) Y #[.int .u8 fr,.int .u8 tt,.int .i64 am] 62:=KY3.out
   have KZ4:Blk ((V.setCell ⟨w.heap.size,fr.toNat,none⟩ (.int .i64 (s fr - am))).drew) w.heap.size (ltA (upL s fr (s fr - am))) 100:=KZ3.out
   have BZ4:Below w.heap.size w ((V.setCell ⟨w.heap.size,fr.toNat,none⟩ (.int .i64 (s fr - am))).drew):=BZ3.out.drew
   have hs2:-264982302294016≤upL s fr (s fr - am) tt∧upL s fr (s fr - am) tt≤264982302294016:=by
    have:=SB.out tt
    unfold upL
    split <;> omega
   have NS:=Lib.hid (st_minus s fr tt am)
   clear g0 g1 g2 gl zl zd zf s0 s9 KY3 KZ3 BZ3
   generalize (V.setCell ⟨w.heap.size,fr.toNat,none⟩ (.int .i64 (s fr - am))).drew=V2 at KY4 KZ4 BZ4 ⊢
   generalize upL s fr (s fr - am)=s2 at *
   have g0:=KY4.cell 0
   have g1:=KY4.cell 1
   have g2:=KY4.cell 2
   have gl:=KY4.lt
   have zl:=KZ4.lt
   simp at g0 g1 g2
   have zd:=KZ4.ltAt (p:=tt) (by omega) (by omega)
   have zf:=KZ4.frozen tt.toNat
   obtain ⟨s0,s9⟩:=hs2
   have KZ5:=Lib.hid (KZ4.ltSet (p:=tt) (by omega) (by omega) (s2 tt + am))
   rw [NS.out,← NX.out] at KZ5
   have BZ5:=Lib.hid (BZ4.setCell (p:=⟨w.heap.size,tt.toNat,none⟩) (Nat.le_refl _) (.int .i64 (s2 tt + am)))
   clear KY4 KZ4 BZ4
   go_wp2_with fail
   go_region
   go_wp2_with fail
   exact ⟨⟨k + 1,by have:=HLT.out; omega,by go_num,KZ5.out,BZ5.out.drew⟩,by simp [intOf]; have:=HLT.out; omega⟩
  ·have hkn:k=l.length:=by omega
   subst hkn
   have qk:decide (((l.length:Nat):Int)<(l.length:Int))=false:=by simp
   have h0:(stL l l.length)=stW l m 0:=by funext p; unfold stW; show _=_ - 0; omega
   rw [h0] at KX
   go_wp2_with fail
   go_loopw [8] (FairAt2 w l m) (fun i _=>m.length - (intOf i).toNat)
   case atStart=>exact ⟨0,by omega,rfl,KX.out,BB.out⟩
   case round =>
    clear KX BB hxl qk h0
    obtain ⟨k,hk,rfl,hX,hB⟩:=hrel
    have KX:=Lib.hid hX
    have BB:=Lib.hid hB
    have hxl:=hX.lt
    clear hX hB
    by_cases hkl:k<m.length
    ·have qk:decide ((k:Int)<(m.length:Int))=true:=by simpa using hkl
     have k0:(0:Int)≤(k:Int):=by omega
     have k1:(k:Int)<(m.length:Int):=by omega
     obtain ⟨b,off,rfl,hbw,hcell⟩:=HM.out (by omega)
     obtain ⟨e0,e1,e2⟩:=hcell k hkl
     have d0:=(BB.out.cell (p:=⟨b,off + k * 3,none⟩) hbw).trans e0
     have d1:=(BB.out.cell (p:=⟨b,off + k * 3 + 1,none⟩) hbw).trans e1
     have d2:=(BB.out.cell (p:=⟨b,off + k * 3 + 2,none⟩) hbw).trans e2
     have hbr:=Nat.lt_of_lt_of_le hbw BB.out.size
     obtain ⟨⟨f0,f9⟩,⟨t0,t9⟩,n1,n9⟩:=HF.out.okM k hkl
     have hsb:=fun p=>stL_bd (fun i hi=>(HF.out.okM i hi).2.2) p k hk
     have hsc:=fun p=>stL_bd (l:=l) (fun i hi=>⟨by have:=(HF.out.okL i hi).2.2.1; omega,(HF.out.okL i hi).2.2.2.1⟩) p l.length (Nat.le_refl _)
     have SB:Hid (∀ p,-527765581332480≤stW l m k p∧stW l m k p≤527765581332480):=Lib.hid fun p=>by have:=hsb p; have:=hsc p; unfold stW; omega
     have NX:Hid (stW l m (k + 1)=fun p=>stW l m k p - ((if (dbt m k).tt=p then (dbt m k).am else 0) - (if (dbt m k).fr=p then (dbt m k).am else 0))):=Lib.hid (by
      funext p
      show stL l l.length p - (stL m k p + psD m p k (dbt m k).am)=stL l l.length p - stL m k p - _
      unfold psD
      omega)
     generalize dbt m k=x at *
     generalize stW l m k=s at *
     obtain ⟨fr,tt,am⟩:=x
     dsimp only at d0 d1 d2 f0 f9 t0 t9 n1 n9 NX
     have HLT:=Lib.hid hkl
     clear hcell e0 e1 e2 hsb hsc
     have KY2:=Lib.hid (Blk.new wr #[.int .u8 fr,.int .u8 tt,.int .i64 am] 62)
     have KZ2:=Lib.hid (KX.out.alloc (.cells #[.int .u8 fr,.int .u8 tt,.int .i64 am] 62))
     have BZ2:=Lib.hid (BB.out.alloc BB.out.size (.cells #[.int .u8 fr,.int .u8 tt,.int .i64 am] 62))
     have q1:decide (16<fr)=false:=by simp; omega
     have q2:decide (16<tt)=false:=by simp; omega
     go_upto_region 16 with fail
     generalize wr.alloc (.cells #[.int .u8 fr,.int .u8 tt,.int .i64 am] 62)=V at *
     generalize wr.heap.size=Y at *
     have g0:=KY2.out.cell 0
     have g1:=KY2.out.cell 1
     have g2:=KY2.out.cell 2
     have gl:=KY2.out.lt
     have zl:=KZ2.out.lt
     simp at g0 g1 g2
     have zd:=KZ2.out.ltAt (p:=fr) (by omega) (by omega)
     have zf:=KZ2.out.frozen fr.toNat
     obtain ⟨s0,s9⟩:=SB.out fr
     have KY3:=Lib.hid (KY2.out.setOther (a:=⟨w.heap.size,fr.toNat,none⟩) (by intro e; have e:Y=w.heap.size:=e; omega) (.int .i64 (s fr + am)))
     have KZ3:=Lib.hid (KZ2.out.ltSet (p:=fr) (by omega) (by omega) (s fr + am))
     have BZ3:=Lib.hid (BZ2.out.setCell (p:=⟨w.heap.size,fr.toNat,none⟩) (Nat.le_refl _) (.int .i64 (s fr + am)))
     clear KY2 KZ2 BZ2 d0 d1 d2
     go_wp2_with fail
     go_region
     have KY4:Blk ((V.setCell ⟨w.heap.size,fr.toNat,none⟩ (.int .i64 (s fr + am))).drew) Y #[.int .u8 fr,.int .u8 tt,.int .i64 am] 62:=KY3.out
     have KZ4:Blk ((V.setCell ⟨w.heap.size,fr.toNat,none⟩ (.int .i64 (s fr + am))).drew) w.heap.size (ltA (upL s fr (s fr + am))) 100:=KZ3.out
     have BZ4:Below w.heap.size w ((V.setCell ⟨w.heap.size,fr.toNat,none⟩ (.int .i64 (s fr + am))).drew):=BZ3.out.drew
     have hs2:-528865092960256≤upL s fr (s fr + am) tt∧upL s fr (s fr + am) tt≤528865092960256:=by
      have:=SB.out tt
      unfold upL
      split <;> omega
     have NS:=Lib.hid (st_plus s fr tt am)
     clear g0 g1 g2 gl zl zd zf s0 s9 KY3 KZ3 BZ3
     generalize (V.setCell ⟨w.heap.size,fr.toNat,none⟩ (.int .i64 (s fr + am))).drew=V2 at KY4 KZ4 BZ4 ⊢
     generalize upL s fr (s fr + am)=s2 at *
     have g0:=KY4.cell 0
     have g1:=KY4.cell 1
     have g2:=KY4.cell 2
     have gl:=KY4.lt
     have zl:=KZ4.lt
     simp at g0 g1 g2
     have zd:=KZ4.ltAt (p:=tt) (by omega) (by omega)
     have zf:=KZ4.frozen tt.toNat
     obtain ⟨s0,s9⟩:=hs2
     have KZ5:=Lib.hid (KZ4.ltSet (p:=tt) (by omega) (by omega) (s2 tt - am))
     rw [NS.out,← NX.out] at KZ5
     have BZ5:=Lib.hid (BZ4.setCell (p:=⟨w.heap.size,tt.toNat,none⟩) (Nat.le_refl _) (.int .i64 (s2 tt - am)))
     clear KY4 KZ4 BZ4
     go_wp2_with fail
     go_region
     go_wp2_with fail
     exact ⟨⟨k + 1,by have:=HLT.out; omega,by go_num,KZ5.out,BZ5.out.drew⟩,by simp [intOf]; have:=HLT.out; omega⟩
    ·have hkn:k=m.length:=by omega
     subst hkn
     have qk:decide (((m.length:Nat):Int)<(m.length:Int))=false:=by simp
     have hst:(stW l m m.length)=fun _=>0:=funext HF.out.stand
     rw [hst] at KX
     have c0:wr.cell? ⟨w.heap.size,0,none⟩=some (.int .i64 0):=by have:=KX.out.ltAt (p:=0) (by omega) (by omega); exact this
     have c1:wr.cell? ⟨w.heap.size,1,none⟩=some (.int .i64 0):=by have:=KX.out.ltAt (p:=1) (by omega) (by omega); exact this
     have c2:wr.cell? ⟨w.heap.size,2,none⟩=some (.int .i64 0):=by have:=KX.out.ltAt (p:=2) (by omega) (by omega); exact this
     have c3:wr.cell? ⟨w.heap.size,3,none⟩=some (.int .i64 0):=by have:=KX.out.ltAt (p:=3) (by omega) (by omega); exact this
     have c4:wr.cell? ⟨w.heap.size,4,none⟩=some (.int .i64 0):=by have:=KX.out.ltAt (p:=4) (by omega) (by omega); exact this
     have c5:wr.cell? ⟨w.heap.size,5,none⟩=some (.int .i64 0):=by have:=KX.out.ltAt (p:=5) (by omega) (by omega); exact this
     have c6:wr.cell? ⟨w.heap.size,6,none⟩=some (.int .i64 0):=by have:=KX.out.ltAt (p:=6) (by omega) (by omega); exact this
     have c7:wr.cell? ⟨w.heap.size,7,none⟩=some (.int .i64 0):=by have:=KX.out.ltAt (p:=7) (by omega) (by omega); exact this
     have c8:wr.cell? ⟨w.heap.size,8,none⟩=some (.int .i64 0):=by have:=KX.out.ltAt (p:=8) (by omega) (by omega); exact this
     have c9:wr.cell? ⟨w.heap.size,9,none⟩=some (.int .i64 0):=by have:=KX.out.ltAt (p:=9) (by omega) (by omega); exact this
     have c10:wr.cell? ⟨w.heap.size,10,none⟩=some (.int .i64 0):=by have:=KX.out.ltAt (p:=10) (by omega) (by omega); exact this
     have c11:wr.cell? ⟨w.heap.size,11,none⟩=some (.int .i64 0):=by have:=KX.out.ltAt (p:=11) (by omega) (by omega); exact this
     have c12:wr.cell? ⟨w.heap.size,12,none⟩=some (.int .i64 0):=by have:=KX.out.ltAt (p:=12) (by omega) (by omega); exact this
     have c13:wr.cell? ⟨w.heap.size,13,none⟩=some (.int .i64 0):=by have:=KX.out.ltAt (p:=13) (by omega) (by omega); exact this
     have c14:wr.cell? ⟨w.heap.size,14,none⟩=some (.int .i64 0):=by have:=KX.out.ltAt (p:=14) (by omega) (by omega); exact this
     have c15:wr.cell? ⟨w.heap.size,15,none⟩=some (.int .i64 0):=by have:=KX.out.ltAt (p:=15) (by omega) (by omega); exact this
     have c16:wr.cell? ⟨w.heap.size,16,none⟩=some (.int .i64 0):=by have:=KX.out.ltAt (p:=16) (by omega) (by omega); exact this
     have hbl:=KX.out.lt
     have hq:=equal_st0 wr
     go_wp2_with fail
     go_ret
     exact ⟨rfl,BB.out⟩
end Go.Proofs.YtlbjjkbppbmihaaGreat
namespace Go.Proofs.YtlbjjkbppbmihaaGreat
open Go.RowKit
theorem capA_set (f:Int→Int→Int) {p q:Nat} (hp:p<17) (hq:q<17) (n:Int):(capA f).setIfInBounds (p * 17 + q) (.int .i64 n)=capA (updE f p q n):=by
 unfold capA
 rw [gridA_set _ hp hq]
 congr 1
 funext a b
 unfold updE
 split <;> rfl
theorem capA_congr {f g:Int→Int→Int} (h:∀ p q:Nat,p<17→q<17→f p q=g p q):capA f=capA g:=by
 apply Array.ext_getElem?
 intro i
 by_cases hi:i<289
 ·rw [capA_get _ hi,capA_get _ hi,h _ _ (by omega) (by omega)]
 ·rw [Array.getElem?_eq_none (by rw [capA_size]; omega),Array.getElem?_eq_none (by rw [capA_size]; omega)]
def fillO (k:Nat):Int→Int→Int:=fun a _=>if a<(k:Int) then 1048576 else 0
def fillI (k j:Nat):Int→Int→Int:=fun a b=>if a<(k:Int)∨(a=k∧b<(j:Int)) then 1048576 else 0
theorem fillI_next {k j:Nat} (hk:k<17) (hj:j<17):capA (updE (fillI k j) k j 1048576)=capA (fillI k (j + 1)):=by
 refine capA_congr fun p q hp hq=>?_
 unfold updE fillI
 by_cases h1:(p:Int)=k∧(q:Int)=j
 ·rw [if_pos h1,if_pos (by omega)]
 ·rw [if_neg h1]
  by_cases h2:(p:Int)<k∨((p:Int)=k∧(q:Int)<j)
  ·rw [if_pos h2,if_pos (by omega)]
  ·rw [if_neg h2,if_neg (by omega)]
theorem fillI_zero (k:Nat):capA (fillI k 0)=capA (fillO k):=by
 refine capA_congr fun p q hp hq=>?_
 unfold fillI fillO
 by_cases h1:(p:Int)<k
 ·rw [if_pos h1,if_pos (.inl h1)]
 ·rw [if_neg h1,if_neg (by omega)]
theorem fillI_all (k:Nat):capA (fillI k 17)=capA (fillO (k + 1)):=by
 refine capA_congr fun p q hp hq=>?_
 unfold fillI fillO
 by_cases h1:(p:Int)<((k + 1:Nat):Int)
 ·rw [if_pos h1,if_pos (by omega)]
 ·rw [if_neg h1,if_neg (by omega)]
theorem fillO_zero:capA (fillO 0)=capA (fun _ _=>0):=by
 refine capA_congr fun p q hp hq=>?_
 unfold fillO
 rw [if_neg (by omega)]
theorem fillO_all:capA (fillO 17)=capA noneF:=by
 refine capA_congr fun p q hp hq=>?_
 unfold fillO noneF
 rw [if_pos (by omega)]
end Go.Proofs.YtlbjjkbppbmihaaGreat
