/-
  Pieces of one proof, without what is not wanted: PCancel, LedMath, LedMath3.
-/
import Derived.Test.YtlbjjkbppbmihaaGreatL01
import Derived.Test.YtlbjjkbppbmihaaGreatL04
import Derived.Test.YtlbjjkbppbmihaaGreatL05
import Derived.Test.YtlbjjkbppbmihaaGreatL08
set_option linter.unusedSimpArgs false
set_option linter.unusedVariables false
namespace Go.Proofs.YtlbjjkbppbmihaaGreat
open Go.RowKit
def stVals (B:Nat) (l:List Fw) (L:Nat→Int) (v:Nat→Int) (k:Nat):List Value:=[.pointer (some ⟨B,ixS l L (v k) (v (k + 1)) * 4,none⟩),.int .i64 (sgS l L (v k) (v (k + 1)))]
def stCells (B:Nat) (l:List Fw) (L:Nat→Int) (v:Nat→Int):Nat→List Value
 | 0=>[]
 | k + 1=>stCells B l L v k++stVals B l L v k
theorem stCells_len (B:Nat) (l:List Fw) (L:Nat→Int) (v:Nat→Int):∀ n,(stCells B l L v n).length=n * 2
 | 0=>rfl
 | n + 1=>by
  show (stCells B l L v n++stVals B l L v n).length=_
  rw [List.length_append,stCells_len B l L v n]
  show n * 2 + 2=_
  omega
theorem stCells_get (B:Nat) (l:List Fw) (L:Nat→Int) (v:Nat→Int) {i j:Nat} (hj:j<2):∀ n,i<n→(stCells B l L v n)[i * 2 + j]? = (stVals B l L v i)[j]?
 | 0,h=>by omega
 | n + 1,h=>by
  show (stCells B l L v n++stVals B l L v n)[i * 2 + j]? = _
  by_cases hi:i=n
  ·subst hi
   rw [List.getElem?_append_right (by rw [stCells_len]; omega),stCells_len]
   congr 1
   omega
  ·rw [List.getElem?_append_left (by rw [stCells_len]; omega)]
   exact stCells_get B l L v hj n (by omega)
theorem info_st:(Tryz.prog.info? 146).map (fun i=>(i.zero,i.size,i.bytes))=some (some (.agg #[.pointer none,.int .i64 0]),2,16):=by kernel_rfl
def lstK (l:List Fw) (L:Nat→Int) (v:Nat→Int) (k:Nat):Int:=if k=0 then 9223372036854775807 else minK l L v k
theorem lstK_next {l:List Fw} {L:Nat→Int} {v:Nat→Int} {k:Nat} (h:avS l L (v k) (v (k + 1))≤1099511627776):min (lstK l L v k) (avS l L (v k) (v (k + 1)))=lstK l L v (k + 1):=by
 unfold lstK
 rw [if_neg (show ¬ k + 1=0 by omega)]
 by_cases hk:k=0
 ·subst hk
  rw [if_pos rfl]
  show _=min (1099511627776:Int) (avS l L (v 0) (v (0 + 1)))
  generalize avS l L (v 0) (v (0 + 1))=x at *
  rw [Int.min_eq_right (by omega),Int.min_eq_right (by omega)]
 ·rw [if_neg hk]
  rfl
def CanAt (w:World) (B:Nat) (l:List Fw) (L:Nat→Int) (v:Nat→Int) (K:Nat) (sv lv fv i:Value) (wr:World):Prop :=
 ∃ k:Nat,k≤K∧i=.int .i64 k∧lv=.int .i64 (lstK l L v k)∧fv=.int .u8 (v k)∧wr.ownsRow w.heap.size 146 2 sv k (stCells B l L v k)∧Below w.heap.size w wr
def CanAt2 (w w1:World) (base:Nat) (c:Value) (B:Nat) (l:List Fw) (L:Nat→Int) (v:Nat→Int) (n:Int) (K:Nat) (i:Value) (wr:World):Prop :=
 ∃ k:Nat,k≤K∧i=.int .i64 k∧wr.ownsRow base 139 4 c l.length (dcCells l (tkK l L v n k) l.length)∧Keep (fun b=>b=B) w wr∧Keep (fun b=>b=B) w1 wr
set_option maxHeartbeats 16000000 in
set_option maxRecDepth 100000 in
theorem cancel_any {w:World} {base B cap:Nat} {l:List Fw} {L:Nat→Int} (hO:w.ownsRow base 139 4 (.slice (some ⟨B,0,none⟩) l.length cap) l.length (dcCells l L l.length)) (hM:MayD l) (hln:l.length≤300) (hL:RdOk l L) (hB:B<w.heap.size) {W:List Int} {c:Int→Int→Int} {n:Int} (hI:CanI l L c W n)
  {rv:Value} {rb:Nat} (hR:Rowed w rb 30 1 rv W.length (W.map (.int .u8))) :
  Calls Tryz.prog 74 #[.slice (some ⟨B,0,none⟩) l.length cap,rv] w (MovePost 139 base (.slice (some ⟨B,0,none⟩) l.length cap) l (nextD l L) B w):=by
 obtain ⟨ro,rcap,rfl,_,_,_,hrow⟩:=hR.look
 obtain ⟨g,rfl,_,hgw,hcell,_⟩:=hrow (by have:=hI.k1; omega)
 have HC:Hid (∀ k,(hk:k<W.length)→w.cell? ⟨g,k,none⟩=some (.int .u8 W[k])):=Lib.hid fun k hk=>by
  rw [hcell k (by omega),List.getElem?_map,List.getElem?_eq_getElem hk]; rfl
 have HI:=Lib.hid hI
 have HO:=Lib.hid hO
 have HM:=Lib.hid hM
 have HL:=Lib.hid hL
 obtain ⟨K,hK⟩:∃ K,W.length=K:=⟨_,rfl⟩
 have HK:=Lib.hid hK
 obtain ⟨v,hv⟩:∃ v,uR W=v:=⟨_,rfl⟩
 have HV:=Lib.hid hv
 have k1:=hI.k1
 have k16:=hI.k16
 have e0:=HC.out (W.length - 1) (by omega)
 rw [hI.last (by omega),hv,hK] at e0
 rw [hK] at k1 k16 ⊢
 have CS:Hid (∀ k,k<K→∀ w',Below w.heap.size w w'→Calls Tryz.prog 90 #[.slice (some ⟨B,0,none⟩) l.length cap,.int .u8 (v k),.int .u8 (v (k + 1))] w' (StepPost l L B (v k) (v (k + 1)) w')):=Lib.hid fun k hk w' hb=>by
  rw [← hv]
  have h1:=hI.ends k
  have h2:=hI.ends (k + 1)
  exact cstep_any (owns_below HO.out hb) HM.out hln HL.out ⟨by omega,by omega⟩ ⟨by omega,by omega⟩ (hI.st k (by rw [hK]; exact hk)) (Nat.lt_of_lt_of_le hB hb.size)
 have CH:Hid (∀ k,k<K→∀ w',Below w.heap.size w w'→Calls Tryz.prog 91 #[.agg #[.pointer (some ⟨B,ixS l L (v k) (v (k + 1)) * 4,none⟩),.int .i64 (sgS l L (v k) (v (k + 1)))]] w' fun e w2=>e=.returned (.int .i64 (avS l L (v k) (v (k + 1))))∧Below w'.heap.size w' w2):=Lib.hid fun k hk w' hb=>by
  rw [← hv]
  exact chas_any (owns_below HO.out hb) (hI.st k (by rw [hK]; exact hk)).ix (Nat.lt_of_lt_of_le hB hb.size) (bkS l L (uR W k) (uR W (k + 1)))
 have AV:Hid (∀ k,k<K→1≤avS l L (v k) (v (k + 1))∧avS l L (v k) (v (k + 1))≤1099511627776):=Lib.hid fun k hk=>by
  rw [← hv]
  have hs:=hI.st k (by rw [hK]; exact hk)
  refine ⟨hs.av,?_⟩
  have h1:=hL.lo _ hs.ix
  have h2:=hL.hi _ hs.ix
  have h3:=(hM.ok _ hs.ix).2.2.2.2
  unfold avS
  split <;> omega
 have HLS:Hid (∀ k,k≤K→0≤lstK l L v k∧lstK l L v k≤9223372036854775807):=Lib.hid fun k hk=>by
  unfold lstK
  by_cases h0:k=0
  ·rw [if_pos h0]; omega
  ·rw [if_neg h0]
   have h1:=(minK_le l L v k).1
   have h2:=minK_pos l L v k (fun j hj=>(AV.out j (by omega)).1)
   omega
 have ki0:(0:Int)≤(K:Int) - 1:=by omega
 have ki1:(K:Int) - 1<(K:Int):=by omega
 clear hR hrow hcell hI hO hM hL hK hv
 go_enter Tryz.func74,Tryz.ntmps74
 go_wp2_with fail
 go_loopw [4,5,6,20] (CanAt w B l L v K) (fun _ _ _ i _=>K - (intOf i).toNat)
 case atStart=>exact ⟨0,by omega,rfl,rfl,rfl,World.ownsRow_nil _ _ _ _,Below.refl _ _⟩
 case round =>
  clear e0
  obtain ⟨k,hk,rfl,rfl,rfl,hs,hb⟩:=hrel
  have BB:=Lib.hid hb
  have OS:=Lib.hid hs
  obtain ⟨aos,caps,rfl,_⟩:=owns_open hs
  clear hs hb
  by_cases hkK:k<K
  ·have qk:decide ((k:Int)<(K:Int))=true:=by simpa using hkK
   have i0:(0:Int)≤(k:Int):=by omega
   have i1:(k:Int)<(K:Int):=by omega
   have d0:=(BB.out.cell (p:=⟨g,k,none⟩) hgw).trans (HC.out k (by rw [HK.out]; exact hkK))
   rw [HI.out.at_ k (by rw [HK.out]; exact hkK),HV.out] at d0
   have hgr:=Nat.lt_of_lt_of_le hgw BB.out.size
   have CS1:=Lib.hid (CS.out k hkK wr BB.out)
   have CH1:=Lib.hid (CH.out k hkK)
   have NX:=Lib.hid (lstK_next (AV.out k hkK).2)
   obtain ⟨hl0,hl9⟩:=HLS.out k hk
   obtain ⟨ha0,ha9⟩:=AV.out k hkK
   have NC:Hid (stCells B l L v (k + 1)=stCells B l L v k++[.pointer (some ⟨B,ixS l L (v k) (v (k + 1)) * 4,none⟩),.int .i64 (sgS l L (v k) (v (k + 1)))]):=Lib.hid rfl
   unfold StepPost at CS1
   generalize ixS l L (v k) (v (k + 1)) * 4=ix at CS1 CH1 NC
   generalize sgS l L (v k) (v (k + 1))=sg at CS1 CH1 NC
   generalize avS l L (v k) (v (k + 1))=av at *
   generalize lstK l L v k=lst at *
   go_wp2_with fail
   refine CS1.out.mono ?_
   rintro e w2 ⟨rfl,hb2⟩
   have B2:=Lib.hid (andB BB.out hb2)
   have O2:=Lib.hid (owns_below OS.out hb2)
   have B3:=Lib.hid (B2.out.alloc B2.out.size (.cells #[.pointer (some ⟨B,ix,none⟩),.int .i64 sg] 146))
   have O3:=Lib.hid (owns_below O2.out ((Below.refl w2.heap.size w2).alloc (Nat.le_refl _) (.cells #[.pointer (some ⟨B,ix,none⟩),.int .i64 sg] 146)))
   have K3:=Lib.hid (Blk.new w2 #[.pointer (some ⟨B,ix,none⟩),.int .i64 sg] 146)
   clear CS1 hb2 d0 hgr
   go_wp2_with (at_builtin; refine wpList_append_one _ rfl (.tmp 28) (.tmp 30) 143 146 rfl Tryz.underlying143 info_st rfl (by decide) (by decide) w.heap.size _ k _ rfl (O3.out.alloc _) (w2.heap.size + 1) 1 [.pointer (some ⟨B,ix,none⟩),.int .i64 sg] rfl (by simp [go_sem]) ?_ (by intro u hu; simp at hu; rcases hu with rfl | rfl <;> rfl) (by omega) (by have:=B2.out.size; simp; omega) ?_)
   ·exact Blk.newAt _ _ _ (by simp)
   intro v4 w4 hown hgr4
   have O4:=Lib.hid (show w4.ownsRow w.heap.size 146 2 v4 (k + 1) (stCells B l L v (k + 1)) from by rw [NC.out]; exact hown)
   have B4:=Lib.hid (below_ag B3.out B3.out.size hgr4 (fun k' h=>(owns_type O3.out h).1))
   have K4:=Lib.hid ((K3.out.alloc (.cells #[.pointer (some ⟨B,ix,none⟩),.int .i64 sg] 146)).grown hgr4 (fun e=>by have:=(owns_type O2.out e).2.1; omega))
   have c0:=K4.out.cell 0
   have c1:=K4.out.cell 1
   have hlt4:=K4.out.lt
   simp at c0 c1
   clear hown hgr4
   go_wp2_with fail
   refine (CH1.out w4 B4.out).mono ?_
   rintro e w5 ⟨rfl,hb5⟩
   have B5:=Lib.hid (andB B4.out hb5)
   have O5:=Lib.hid (owns_below O4.out hb5)
   clear hb5 CH1 c0 c1 hlt4
   go_wp2_with fail
   have HKL:=Lib.hid hkK
   refine ⟨⟨k + 1,by have:=HKL.out; omega,by go_num,?_,rfl,O5.out,B5.out⟩,by simp [intOf]; have:=HKL.out; omega⟩
   rw [← NX.out]
   congr 1
   rw [Int.min_def]
   split <;> split <;> omega
  ·have hkn:k=K:=by omega
   subst hkn
   have q0:decide (((k:Nat):Int)<(k:Int))=false:=by simp
   have hls:lstK l L v k=n:=by
    unfold lstK
    rw [if_neg (by omega),← HV.out,← HK.out]
    exact HI.out.least
   rw [hls]
   have n1:=HI.out.n1
   have n9:=HI.out.n9
   have OB:=Lib.hid (owns_below HO.out BB.out)
   have OSZ:=Lib.hid BB.out.size
   go_wp2_with fail
   obtain ⟨wf,rfl⟩:∃ x,x=wr:=⟨_,rfl⟩
   go_loopw [11,40] (fun _ i wz=>CanAt2 w wf base (.slice (some ⟨B,0,none⟩) l.length cap) B l L v n k i wz) (fun _ i _=>k - (intOf i).toNat)
   case atStart=>exact ⟨0,by omega,rfl,OB.out,Keep.of_below BB.out,Keep.refl _ _⟩
   case round =>
    clear q0
    obtain ⟨j,hj,rfl,hO2,hk1,hk2⟩:=hrel
    have OD:=Lib.hid hO2
    have K1:=Lib.hid hk1
    have K2:=Lib.hid hk2
    clear hO2 hk1 hk2
    by_cases hjk:j<k
    ·have qk:decide ((j:Int)<(k:Int))=true:=by simpa using hjk
     have i0:(0:Int)≤(j:Int):=by omega
     have i1:(j:Int)<(k:Int):=by omega
     obtain ⟨ao,cp,hvv,_,_,_,hx⟩:=owns_open OS.out
     cases hvv
     obtain ⟨gs,rfl,hgs0,hgs1,hgs2,_⟩:=hx (by omega)
     have hne:gs≠B:=fun e=>by omega
     have d0:=(K2.out.cell (p:=⟨gs,j * 2,none⟩) hgs1 hne).trans ((hgs2 (j * 2 + 0) (by omega)).trans (stCells_get B l L v (by omega) k hjk))
     have d1:=(K2.out.cell (p:=⟨gs,j * 2 + 1,none⟩) hgs1 hne).trans ((hgs2 (j * 2 + 1) (by omega)).trans (stCells_get B l L v (by omega) k hjk))
     simp only [stVals,List.getElem?_cons_zero,List.getElem?_cons_succ] at d0 d1
     have hgz:=Nat.lt_of_lt_of_le hgs1 K2.out.size
     have hst:=HI.out.st j (by rw [HK.out]; exact hjk)
     rw [HV.out] at hst
     have hoff:=(tk_gen (n:=n) (s:=v) (K:=k) (fun a b h1 h2=>by rw [← HV.out]; exact HI.out.apart a b h1 (by rw [HK.out]; exact h2)) j (by omega)).1 _ (fun a ha=>by rw [← HV.out]; exact HI.out.apart a j ha (by rw [HK.out]; exact hjk))
     rw [HV.out] at hoff
     have hlo:=HL.out.lo _ hst.ix
     have hhi:=HL.out.hi _ hst.ix
     have hmx:=(HM.out.ok _ hst.ix).2.2.2.2
     have O3:=Lib.hid (owns_below OD.out ((Below.refl wr.heap.size wr).alloc (Nat.le_refl _) (.cells #[.pointer (some ⟨B,ixS l L (v j) (v (j + 1)) * 4,none⟩),.int .i64 (sgS l L (v j) (v (j + 1)))] 146)))
     have CM:=Lib.hid (cmove_any O3.out hst.ix (by have:=K1.out.size; simp; omega) (bkS l L (v j) (v (j + 1))) ⟨by omega,n9⟩ (by rw [hoff]; omega) (by rw [hoff]; omega))
     have K3:=Lib.hid (K1.out.alloc (.cells #[.pointer (some ⟨B,ixS l L (v j) (v (j + 1)) * 4,none⟩),.int .i64 (sgS l L (v j) (v (j + 1)))] 146))
     have K4:=Lib.hid (K2.out.alloc (.cells #[.pointer (some ⟨B,ixS l L (v j) (v (j + 1)) * 4,none⟩),.int .i64 (sgS l L (v j) (v (j + 1)))] 146))
     have NT:Hid (tkK l L v n (j + 1)=updL (tkK l L v n j) (ixS l L (v j) (v (j + 1))) (tkK l L v n j (ixS l L (v j) (v (j + 1))) + if bkS l L (v j) (v (j + 1)) then n else -n)):=Lib.hid rfl
     rw [show (if bkS l L (v j) (v (j + 1))=true then (-1:Int) else 1)=sgS l L (v j) (v (j + 1)) from rfl,← NT.out] at CM
     unfold MovePost at CM
     clear NT hoff hlo hhi hmx hst hgs2 hx
     generalize ixS l L (v j) (v (j + 1)) * 4=ix at d0 CM O3 K3 K4
     generalize sgS l L (v j) (v (j + 1))=sg at d1 CM O3 K3 K4
     have HJK:=Lib.hid hjk
     go_wp2_with fail
     refine CM.out.mono ?_
     rintro e w6 ⟨rfl,hO6,hk6⟩
     have O6:=Lib.hid hO6
     have K5:=Lib.hid (K3.out.trans hk6)
     have K6:=Lib.hid (K4.out.trans hk6)
     clear hO6 hk6 CM d0 d1
     go_wp2_with fail
     exact ⟨⟨j + 1,by have:=HJK.out; omega,by go_num,O6.out,K5.out,K6.out⟩,by simp [intOf]; have:=HJK.out; omega⟩
    ·have hjn:j=k:=by omega
     subst hjn
     have q0:decide (((j:Nat):Int)<(j:Int))=false:=by simp
     have hnx:tkK l L v n j=nextD l L:=by
      rw [← HV.out,← HI.out.next,HK.out]
     rw [hnx] at OD
     go_wp2_with fail
     go_end0
     exact ⟨rfl,OD.out,K1.out⟩
end Go.Proofs.YtlbjjkbppbmihaaGreat
namespace Go.Proofs.YtlbjjkbppbmihaaGreat
open Go.RowKit
theorem wayD_nil {l:List Fw} {L:Nat→Int} (h:l.length=0):wayD l L=[]:=by
 unfold wayD
 rw [h]
 exact round_free (es:=[]) (fun e he=>by cases he) (fun _=>0) (fun e he=>by cases he)
theorem roundW_16 (es:List Ed) (hco:∀ e ∈ es,-128≤e.co∧e.co≤127):(roundW es).length≤16:=by
 by_cases h:roundW es=[]
 ·rw [h]; simp
 ·obtain ⟨c,hC⟩:=cost_ex es
  obtain ⟨K,u,hu⟩:=round_cheap hC hco h
  rw [hu.len]
  exact hu.k16
theorem quota_out {l:List Fw} {L:Nat→Int} {k:Nat} (hM:MayD l) (h:RdInv l k L) (hn:wayD l L≠[]):∃ M j,IsLeast l M j∧k<j:=by
 obtain ⟨M,j,hj⟩:=least_ends hM
 refine ⟨M,j,hj,?_⟩
 rcases Nat.lt_trichotomy k j with q | q | q
 ·exact q
 ·subst q
  rw [h.at_,← hj.inv.at_] at hn
  exact absurd hj.done hn
 ·have:=h.go j q
  rw [← hj.inv.at_] at this
  exact absurd hj.done this
def LeastOut (t:TypeId) (l:List Fw) (q:Int) (base:Nat) (e:Ending) (w':World):Prop :=
 (¬ (MayD l∧0≤q)∧e=.returned (.tuple #[.slice none 0 0,.int .i64 0,.int .i64 1])) ∨
 (MayD l∧0≤q∧∃ L k,IsLeast l L k∧(((k:Int)≤q∧∃ v,e=.returned (.tuple #[v,.int .i64 k,.int .i64 0])∧Rowed w' base t 3 v (leftL l L).length (fwCells (leftL l L))) ∨
  (q<(k:Int)∧e=.returned (.tuple #[.slice none 0 0,.int .i64 0,.int .i64 13]))))
def LeastPost (t:TypeId) (l:List Fw) (q:Int) (w:World) (e:Ending) (w':World):Prop:=Below w.heap.size w w'∧LeastOut t l q w.heap.size e w'
def LstAt (w:World) (l:List Fw) (q:Int) (c:Value) (i rv:Value) (wr:World):Prop :=
 ∃ (k:Nat) (L:Nat→Int),RdInv l k L∧(k:Int)≤q∧i=.int .i64 k∧wr.ownsRow w.heap.size 139 4 c l.length (dcCells l L l.length)∧Rowed wr w.heap.size 30 1 rv (wayD l L).length ((wayD l L).map (.int .u8))∧Below w.heap.size w wr
set_option maxHeartbeats 16000000 in
set_option maxRecDepth 100000 in
theorem pleast_any {w:World} {ao:Option Addr} {cap:Nat} {l:List Fw} (hr:DebtsIn w ao l) (hfit:DebtsFit l) (hln:l.length≤240) (q:Int) :
  Calls Tryz.prog 43 #[.slice ao l.length cap,.int .i64 q] w (LeastPost 62 l q w):=by
 have HC:=Lib.hid hr
 have HF:=Lib.hid hfit
 have CM:=Lib.hid (debtsMay_any (cap:=cap) hr hfit (by omega))
 clear hr hfit
 by_cases hm:mayN l l.length=true
 case neg =>
  have hm':mayN l l.length=false:=by simpa using hm
  have HN:Hid (¬ (MayD l∧0≤q)):=Lib.hid fun h=>hm ((mayD_iff l).2 h.1)
  rw [hm'] at CM
  clear hm hm'
  go_enter Tryz.func43,Tryz.ntmps43
  go_wp2_with fail
  refine CM.out.mono ?_
  rintro e w1 ⟨rfl,b1⟩
  have B1:=Lib.hid b1
  clear b1 CM
  go_wp2_with fail
  go_ret3
  exact ⟨B1.out,.inl ⟨HN.out,rfl⟩⟩
 rw [hm] at CM
 have HM:=Lib.hid ((mayD_iff l).1 hm)
 clear hm
 by_cases hq:q<0
 case pos =>
  have hq':decide (q<0)=true:=by simpa using hq
  have HN:Hid (¬ (MayD l∧0≤q)):=Lib.hid fun h=>by omega
  clear hq
  go_enter Tryz.func43,Tryz.ntmps43
  go_wp2_with fail
  refine CM.out.mono ?_
  rintro e w1 ⟨rfl,b1⟩
  have B1:=Lib.hid b1
  clear b1 CM
  go_wp2_with fail
  go_ret3
  exact ⟨B1.out,.inl ⟨HN.out,rfl⟩⟩
 have hq':decide (q<0)=false:=by simpa using hq
 have HQ:Hid (0≤q):=Lib.hid (by omega)
 have CB:=Lib.hid (fun w' (hb:Below w.heap.size w w')=>begin_any (cap:=cap) (HC.out.below hb) (by omega))
 clear hq
 go_enter Tryz.func43,Tryz.ntmps43
 go_wp2_with fail
 refine CM.out.mono ?_
 rintro e w1 ⟨rfl,b1⟩
 have B1:=Lib.hid b1
 have CB1:=Lib.hid (CB.out w1 b1)
 clear b1 CM CB
 go_wp2_with fail
 refine CB1.out.mono ?_
 rintro e w2 ⟨c,rfl,hO,hb⟩
 have B2:=Lib.hid (andB B1.out hb)
 have O2:=Lib.hid (owns_base hO B1.out.size)
 obtain ⟨aoc,capc,rfl,_⟩:=owns_open hO
 clear hO hb CB1
 have CR:=Lib.hid (cround_any O2.out HF.out (by omega))
 go_wp2_with fail
 refine CR.out.mono ?_
 rintro e w3 ⟨rv,rfl,hrv,hb⟩
 have B3:=Lib.hid (andB B2.out hb)
 have O3:=Lib.hid (owns_below O2.out hb)
 have R3:=Lib.hid (show Rowed w3 w.heap.size 30 1 rv (wayD l (amD l)).length ((wayD l (amD l)).map (.int .u8)) from hrv.base B2.out.size)
 obtain ⟨aor,capr,rfl,_⟩:=hrv.look
 clear hrv hb CR
 have S0:=Lib.hid (am_bd HM.out)
 obtain ⟨S,hS⟩:∃ S,sumN (amD l) l.length=S:=⟨_,rfl⟩
 have HS:=Lib.hid hS
 clear hS
 go_wp2_with fail
 go_loopw [5,8] (LstAt w l q (.slice aoc l.length capc)) (fun i _ _=>(S + 1).toNat - (intOf i).toNat)
 case atStart=>exact ⟨0,amD l,RdInv.start HM.out,HQ.out,rfl,O3.out,R3.out,B3.out⟩
 case round =>
  clear R3 O3 B3 O2 B2 B1
  obtain ⟨k,L,hI,hkq,rfl,hO,hR,hB⟩:=hrel
  have BB:=Lib.hid hB
  have OO:=Lib.hid hO
  have RR:=Lib.hid hR
  have HI:=Lib.hid hI
  have hkS:=hI.k_le
  obtain ⟨s0,s9⟩:=S0.out
  rw [HS.out] at hkS s0 s9
  obtain ⟨aow,capw,rfl,_⟩:=hR.look
  have hW16:=roundW_16 (rdE l L l.length) (rdE_co l L l.length)
  have hk0:(0:Int)≤(k:Int):=by omega
  by_cases hd:wayD l L=[]
  ·have HD:=Lib.hid hd
   have CL:=Lib.hid (cleft_any OO.out (by omega))
   rw [hd]
   clear hd hI hO hR hB
   simp only [List.length_nil]
   go_wp2_with fail
   refine CL.out.mono ?_
   rintro e w4 ⟨v,rfl,hv,hb⟩
   have B4:=Lib.hid (andB BB.out hb)
   have V4:=Lib.hid (hv.base BB.out.size)
   obtain ⟨aov,capv,rfl,_⟩:=hv.look
   have HKQ:=Lib.hid hkq
   clear hv hb CL
   go_wp2_with fail
   go_ret3
   exact ⟨B4.out,.inr ⟨HM.out,HQ.out,L,k,⟨HI.out,HD.out⟩,.inl ⟨HKQ.out,_,rfl,V4.out⟩⟩⟩
  ·have HD:=Lib.hid hd
   have hlp:0<(wayD l L).length:=List.length_pos_iff.2 hd
   have hlen16:(wayD l L).length≤16:=hW16
   have hln0:0<l.length:=by
    rcases Nat.eq_zero_or_pos l.length with h | h
    ·exact absurd (wayD_nil h) hd
    ·exact h
   obtain ⟨ao2,cp2,hvv,_,_,_,hx⟩:=owns_open hO
   cases hvv
   obtain ⟨B,rfl,hbb,hBw,_,_⟩:=hx hln0
   obtain ⟨c,hci⟩:=can_of HM.out hI.ok hd
   have CC:=Lib.hid (cancel_any OO.out HM.out (by omega) hI.ok hBw hci RR.out)
   have qp:decide ((0:Int)<((wayD l L).length:Int))=true:=by simp; omega
   have HBB:=Lib.hid hbb
   generalize hwl:(wayD l L).length=m at *
   have hm1:(0:Int)<(m:Int):=by omega
   by_cases hkq2:(k:Int)=q
   ·have qe:((k:Int)==q)=true:=by simpa using hkq2
    obtain ⟨M,j,hj,hkj⟩:=quota_out HM.out hI hd
    have HE:Hid (LeastPost 62 l q w (.returned (.tuple #[.slice none 0 0,.int .i64 0,.int .i64 13])) wr):=Lib.hid ⟨BB.out,.inr ⟨HM.out,HQ.out,M,j,hj,.inr ⟨by omega,rfl⟩⟩⟩
    clear hd hI hO hR hB hkq2 hj hkj hci CC hwl hx hlp hlen16 hW16
    go_wp2_with fail
    go_ret3
    exact HE.out
   ·have qe:((k:Int)==q)=false:=by simpa using hkq2
    have hstep:=hI.step HM.out hd
    have hk1:=hstep.k_le
    rw [HS.out] at hk1
    have HST:=Lib.hid hstep
    have hkq3:((k + 1:Nat):Int)≤q:=by omega
    have HK3:=Lib.hid hkq3
    have HK1:=Lib.hid hk1
    clear hd hI hO hR hB hkq2 hci hwl hx hlp hlen16 hW16 hstep hkq3 hk1
    unfold MovePost at CC
    go_wp2_with fail
    refine CC.out.mono ?_
    rintro e w4 ⟨rfl,hO4,hk4⟩
    have hb4:Below w.heap.size w w4:=BB.out.trans (hk4.below BB.out.size (fun x hx e=>by have:=HBB.out; omega))
    have B4:=Lib.hid hb4
    have O4:=Lib.hid hO4
    have CR:=Lib.hid (cround_any O4.out HF.out (by omega))
    clear hO4 hk4 hb4 CC
    go_wp2_with fail
    refine CR.out.mono ?_
    rintro e w5 ⟨rv,rfl,hrv,hb⟩
    have B5:=Lib.hid (andB B4.out hb)
    have O5:=Lib.hid (owns_below O4.out hb)
    have R5:=Lib.hid (show Rowed w5 w.heap.size 30 1 rv (wayD l (nextD l L)).length ((wayD l (nextD l L)).map (.int .u8)) from hrv.base B4.out.size)
    obtain ⟨aor,capr,rfl,_⟩:=hrv.look
    clear hrv hb CR
    go_wp2_with fail
    refine ⟨⟨k + 1,nextD l L,HST.out,HK3.out,by go_num,O5.out,R5.out,B5.out⟩,?_⟩
    have:=HK1.out
    simp [intOf]
    omega
end Go.Proofs.YtlbjjkbppbmihaaGreat
namespace Go.Proofs.YtlbjjkbppbmihaaGreat
open Go.RowKit
theorem rank_inj {x y:Ln} (hx:x.Fits) (hy:y.Fits) (h:x.rank=y.rank):x.cr=y.cr∧x.de=y.de∧x.cu=y.cu:=by
 obtain ⟨⟨a1,a2⟩,⟨b1,b2⟩,_,_,_⟩:=hx
 obtain ⟨⟨c1,c2⟩,⟨d1,d2⟩,_,_,_⟩:=hy
 unfold Ln.rank at h
 omega
theorem rank_of {x y:Ln} (h1:x.cr=y.cr) (h2:x.de=y.de) (h3:x.cu=y.cu):x.rank=y.rank:=by unfold Ln.rank; rw [h1,h2,h3]
theorem is_iff {x:Ln} {a b c:Int}:x.is a b c=true↔x.cr=a∧x.de=b∧x.cu=c:=by
 unfold Ln.is
 simp only [Bool.and_eq_true,beq_iff_eq,and_assoc]
structure Inv (ls:List Ln):Prop where
 good:∀ x ∈ ls,x.Good
 sorted:ls.Pairwise fun x y=>x.rank<y.rank
theorem Inv.nil:Inv []:=⟨by simp,List.Pairwise.nil⟩
def loL (r:Int) (ls:List Ln):List Ln:=ls.filter fun y=>decide (y.rank<r)
def eqL (r:Int) (ls:List Ln):List Ln:=ls.filter fun y=>decide (y.rank=r)
def hiL (r:Int) (ls:List Ln):List Ln:=ls.filter fun y=>decide (r<y.rank)
theorem split_sorted (r:Int):∀ (ls:List Ln),ls.Pairwise (fun x y=>x.rank<y.rank)→ls=loL r ls++(eqL r ls++hiL r ls)
 | [],_=>rfl
 | x::l,h=>by
  rw [List.pairwise_cons] at h
  have ih:=split_sorted r l h.2
  rcases Int.lt_trichotomy x.rank r with h1 | h1 | h1
  ·have e1:loL r (x::l)=x::loL r l:=by unfold loL; rw [List.filter_cons,if_pos (by simpa using h1)]
   have e2:eqL r (x::l)=eqL r l:=by unfold eqL; rw [List.filter_cons,if_neg (by simp; omega)]
   have e3:hiL r (x::l)=hiL r l:=by unfold hiL; rw [List.filter_cons,if_neg (by simp; omega)]
   rw [e1,e2,e3,List.cons_append,← ih]
  ·have n1:loL r l=[]:=by unfold loL; rw [List.filter_eq_nil_iff]; intro y hy; have:=h.1 y hy; simp; omega
   have e1:loL r (x::l)=[]:=by unfold loL at *; rw [List.filter_cons,if_neg (by simp; omega),n1]
   have e2:eqL r (x::l)=x::eqL r l:=by unfold eqL; rw [List.filter_cons,if_pos (by simpa using h1)]
   have e3:hiL r (x::l)=hiL r l:=by unfold hiL; rw [List.filter_cons,if_neg (by simp; omega)]
   rw [e1,e2,e3]
   rw [n1] at ih
   simp only [List.nil_append,List.cons_append] at ih ⊢
   rw [← ih]
  ·have n1:loL r l=[]:=by unfold loL; rw [List.filter_eq_nil_iff]; intro y hy; have:=h.1 y hy; simp; omega
   have n2:eqL r l=[]:=by unfold eqL; rw [List.filter_eq_nil_iff]; intro y hy; have:=h.1 y hy; simp; omega
   have e1:loL r (x::l)=[]:=by unfold loL at *; rw [List.filter_cons,if_neg (by simp; omega),n1]
   have e2:eqL r (x::l)=[]:=by unfold eqL at *; rw [List.filter_cons,if_neg (by simp; omega),n2]
   have e3:hiL r (x::l)=x::hiL r l:=by unfold hiL; rw [List.filter_cons,if_pos (by simpa using h1)]
   rw [e1,e2,e3]
   rw [n1,n2] at ih
   simp only [List.nil_append] at ih ⊢
   rw [← ih]
theorem fold_lo (x:Ln):∀ (A:List Ln),(∀ y ∈ A,y.rank<x.rank)→∀ s,A.foldl (setStep x) s=(s.1++A,s.2)
 | [],_,s=>by simp
 | y::r,h,s=>by
  have h1:=h y (by simp)
  rw [List.foldl_cons,fold_lo x r (fun z hz=>h z (by simp [hz]))]
  unfold setStep
  rw [if_neg (by omega),if_neg (by omega)]
  simp
theorem fold_eq (x:Ln):∀ (A:List Ln),(∀ y ∈ A,y.rank=x.rank)→∀ s,A.foldl (setStep x) s=s
 | [],_,s=>rfl
 | y::r,h,s=>by
  rw [List.foldl_cons,show setStep x s y=s by unfold setStep; rw [if_pos (h y (by simp))]]
  exact fold_eq x r (fun z hz=>h z (by simp [hz])) s
theorem fold_hi_put (x:Ln):∀ (A:List Ln),(∀ y ∈ A,x.rank<y.rank)→∀ o,A.foldl (setStep x) (o,true)=(o++A,true)
 | [],_,o=>by simp
 | y::r,h,o=>by
  have h1:=h y (by simp)
  rw [List.foldl_cons,show setStep x (o,true) y=(o++[y],true) by unfold setStep; rw [if_neg (by omega),if_neg (by simp)]]
  rw [fold_hi_put x r (fun z hz=>h z (by simp [hz]))]
  simp
theorem fold_hi_not (x:Ln) (A:List Ln) (h:∀ y ∈ A,x.rank<y.rank) (o:List Ln):(if (A.foldl (setStep x) (o,false)).2=false then (A.foldl (setStep x) (o,false)).1++[x] else (A.foldl (setStep x) (o,false)).1)=o++x::A:=by
 cases A with
 | nil=>simp
 | cons y r =>
  have h1:=h y (by simp)
  rw [List.foldl_cons,show setStep x (o,false) y=(o++[x,y],true) by unfold setStep; rw [if_neg (by omega),if_pos ⟨rfl,h1⟩]]
  rw [fold_hi_put x r (fun z hz=>h z (by simp [hz]))]
  simp
theorem setL_eq {ls:List Ln} (hs:ls.Pairwise fun x y=>x.rank<y.rank) (x:Ln):setL ls x=loL x.rank ls++((if x.li=0 then [] else [x])++hiL x.rank ls):=by
 have hsp:=split_sorted x.rank ls hs
 have hlo:∀ y ∈ loL x.rank ls,y.rank<x.rank:=fun y hy=>by unfold loL at hy; simpa using (List.mem_filter.1 hy).2
 have heq:∀ y ∈ eqL x.rank ls,y.rank=x.rank:=fun y hy=>by unfold eqL at hy; simpa using (List.mem_filter.1 hy).2
 have hhi:∀ y ∈ hiL x.rank ls,x.rank<y.rank:=fun y hy=>by unfold hiL at hy; simpa using (List.mem_filter.1 hy).2
 unfold setL setTo
 generalize loL x.rank ls=A at *
 generalize eqL x.rank ls=B at *
 generalize hiL x.rank ls=C at *
 rw [hsp,List.foldl_append,List.foldl_append,fold_lo x A hlo,fold_eq x B heq]
 simp only [List.nil_append]
 by_cases h0:x.li=0
 ·have e:(x.li==0)=true:=by simp [h0]
  rw [e,fold_hi_put x C hhi,if_neg (by simp),if_pos h0]
  simp
 ·have e:(x.li==0)=false:=by simp [h0]
  rw [e,fold_hi_not x C hhi,if_neg h0]
  simp
theorem setL_mem_iff {ls:List Ln} (hs:ls.Pairwise fun x y=>x.rank<y.rank) (x y:Ln):y ∈ setL ls x↔(y ∈ ls∧y.rank≠x.rank)∨(y=x∧x.li≠0):=by
 rw [setL_eq hs]
 unfold loL hiL
 by_cases h0:x.li=0
 ·simp only [h0,if_true,List.nil_append,List.mem_append,List.mem_filter,decide_eq_true_eq,ne_eq,not_true,and_false,or_false]
  constructor
  ·rintro (⟨a,b⟩ | ⟨a,b⟩)
   ·exact ⟨a,by omega⟩
   ·exact ⟨a,by omega⟩
  ·rintro ⟨a,b⟩
   rcases Int.lt_or_gt_of_ne b with h | h
   ·exact .inl ⟨a,h⟩
   ·exact .inr ⟨a,h⟩
 ·simp only [h0,if_false,List.mem_append,List.mem_filter,decide_eq_true_eq,List.mem_singleton,ne_eq,not_false_eq_true,and_true]
  constructor
  ·rintro (⟨a,b⟩ | a | ⟨a,b⟩)
   ·exact .inl ⟨a,by omega⟩
   ·exact .inr a
   ·exact .inl ⟨a,by omega⟩
  ·rintro (⟨a,b⟩ | a)
   ·rcases Int.lt_or_gt_of_ne b with h | h
    ·exact .inl ⟨a,h⟩
    ·exact .inr (.inr ⟨a,h⟩)
   ·exact .inr (.inl a)
theorem setL_sorted {ls:List Ln} (hs:ls.Pairwise fun x y=>x.rank<y.rank) (x:Ln):(setL ls x).Pairwise fun x y=>x.rank<y.rank:=by
 rw [setL_eq hs]
 have hlo:∀ y ∈ loL x.rank ls,y.rank<x.rank:=fun y hy=>by unfold loL at hy; simpa using (List.mem_filter.1 hy).2
 have hhi:∀ y ∈ hiL x.rank ls,x.rank<y.rank:=fun y hy=>by unfold hiL at hy; simpa using (List.mem_filter.1 hy).2
 refine List.pairwise_append.2 ⟨List.Pairwise.filter _ hs,List.pairwise_append.2 ⟨?_,List.Pairwise.filter _ hs,?_⟩,?_⟩
 ·split <;> simp
 ·intro a ha b hb
  split at ha
  ·cases ha
  ·rw [List.mem_singleton] at ha; subst ha; exact hhi b hb
 ·intro a ha b hb
  have h1:=hlo a ha
  rcases List.mem_append.1 hb with hb | hb
  ·split at hb
   ·cases hb
   ·rw [List.mem_singleton] at hb; subst hb; exact h1
  ·have:=hhi b hb; omega
theorem Inv.set {ls:List Ln} (h:Inv ls) {x:Ln} (hx:x.li≠0→x.Good):Inv (setL ls x) :=
 ⟨fun y hy=>by
         rcases (setL_mem_iff h.sorted x y).1 hy with ⟨a,_⟩ | ⟨rfl,b⟩; · exact h.good y a
         ·exact hx b,setL_sorted h.sorted x⟩
theorem line_iff {ls:List Ln} (h:Inv ls) (a b c:Int) (y:Ln):lineL ls a b c=some y↔y ∈ ls∧y.cr=a∧y.de=b∧y.cu=c:=by
 constructor
 ·exact lineL_mem
 ·rintro ⟨hm,h1,h2,h3⟩
  rcases at_cases ls a b c with ⟨k,hk,_,hl,his⟩ | ⟨_,_,hn⟩
  ·rw [hl]
   congr 1
   obtain ⟨e1,e2,e3⟩:=is_iff.1 his
   have hr:ls[k].rank=y.rank:=rank_of (e1.trans h1.symm) (e2.trans h2.symm) (e3.trans h3.symm)
   obtain ⟨j,hj,rfl⟩:=List.getElem_of_mem hm
   rcases Nat.lt_trichotomy k j with hkj | rfl | hkj
   ·have:=List.pairwise_iff_getElem.1 h.sorted k j hk hj hkj; omega
   ·rfl
   ·have:=List.pairwise_iff_getElem.1 h.sorted j k hj hk hkj; omega
  ·have:=hn y hm
   rw [is_iff.2 ⟨h1,h2,h3⟩] at this
   cases this
theorem line_none {ls:List Ln} (a b c:Int):lineL ls a b c=none↔∀ y ∈ ls,¬ (y.cr=a∧y.de=b∧y.cu=c):=by
 rcases at_cases ls a b c with ⟨k,hk,_,hl,his⟩ | ⟨_,hl,hn⟩
 ·rw [hl]
  constructor
  ·intro h; cases h
  ·intro h; exact absurd (is_iff.1 his) (h _ (List.getElem_mem hk))
 ·rw [hl]
  refine ⟨fun _ y hy k=>?_,fun _=>rfl⟩
  have:=hn y hy
  rw [is_iff.2 k] at this
  cases this
theorem line_set {ls:List Ln} (h:Inv ls) {x:Ln} (hx:x.li≠0→x.Good) (hf:x.Fits) (a b c:Int) :
  lineL (setL ls x) a b c=if x.cr=a∧x.de=b∧x.cu=c then (if x.li=0 then none else some x) else lineL ls a b c:=by
 have h2:=h.set hx
 by_cases hk:x.cr=a∧x.de=b∧x.cu=c
 ·rw [if_pos hk]
  by_cases h0:x.li=0
  ·rw [if_pos h0,line_none]
   intro y hy ⟨e1,e2,e3⟩
   rcases (setL_mem_iff h.sorted x y).1 hy with ⟨_,hn⟩ | ⟨_,hn⟩
   ·exact hn (rank_of (e1.trans hk.1.symm) (e2.trans hk.2.1.symm) (e3.trans hk.2.2.symm))
   ·exact hn h0
  ·rw [if_neg h0,line_iff h2]
   exact ⟨(setL_mem_iff h.sorted x x).2 (.inr ⟨rfl,h0⟩),hk⟩
 ·rw [if_neg hk]
  cases hl:lineL ls a b c with
  | none =>
   rw [line_none] at hl ⊢
   intro y hy e
   rcases (setL_mem_iff h.sorted x y).1 hy with ⟨hm,_⟩ | ⟨rfl,_⟩
   ·exact hl y hm e
   ·exact hk e
  | some y =>
   rw [line_iff h] at hl
   rw [line_iff h2]
   refine ⟨(setL_mem_iff h.sorted x y).2 (.inl ⟨hl.1,?_⟩),hl.2⟩
   intro hr
   obtain ⟨e1,e2,e3⟩:=rank_inj (h.good y hl.1).fits hf hr
   exact hk ⟨e1.symm.trans hl.2.1,e2.symm.trans hl.2.2.1,e3.symm.trans hl.2.2.2⟩
theorem sum_set {ls:List Ln} (h:Inv ls) {x:Ln} (hf:x.Fits) (f:Ln→Int) (h0:f noLn=0) :
  ((setL ls x).map f).sum=(ls.map f).sum - f (lnAt ls x.cr x.de x.cu) + (if x.li=0 then 0 else f x):=by
 have e1:((setL ls x).map f).sum=((loL x.rank ls).map f).sum + ((if x.li=0 then 0 else f x) + ((hiL x.rank ls).map f).sum):=by
  rw [setL_eq h.sorted,List.map_append,List.map_append,List.sum_append,List.sum_append]
  split <;> simp
 have e2:(ls.map f).sum=((loL x.rank ls).map f).sum + (((eqL x.rank ls).map f).sum + ((hiL x.rank ls).map f).sum):=by
  have hsp:=split_sorted x.rank ls h.sorted
  calc (ls.map f).sum=((loL x.rank ls++(eqL x.rank ls++hiL x.rank ls)).map f).sum:=by rw [← hsp]
   _=_:=by rw [List.map_append,List.map_append,List.sum_append,List.sum_append]
 have e3:((eqL x.rank ls).map f).sum=f (lnAt ls x.cr x.de x.cu):=by
  unfold lnAt
  cases hl:lineL ls x.cr x.de x.cu with
  | none =>
   have hn:eqL x.rank ls=[]:=by
    unfold eqL
    rw [List.filter_eq_nil_iff]
    intro y hy
    have h1:=(line_none (ls:=ls) x.cr x.de x.cu).1 hl y hy
    intro hr
    exact h1 (rank_inj (h.good y hy).fits hf (by simpa using hr))
   rw [hn]; simp [h0]
  | some y =>
   obtain ⟨hm,k1,k2,k3⟩:=(line_iff h x.cr x.de x.cu y).1 hl
   have hy:y.rank=x.rank:=rank_of k1 k2 k3
   have hmem:y ∈ eqL x.rank ls:=by unfold eqL; exact List.mem_filter.2 ⟨hm,by simpa using hy⟩
   have hp:(eqL x.rank ls).Pairwise fun x y=>x.rank<y.rank:=by unfold eqL; exact List.Pairwise.filter _ h.sorted
   have hall:∀ z ∈ eqL x.rank ls,z.rank=x.rank:=fun z hz=>by unfold eqL at hz; simpa using (List.mem_filter.1 hz).2
   generalize eqL x.rank ls=B at *
   match B,hmem,hp,hall with
   | [z],hmem,_,_=>rw [List.mem_singleton] at hmem; subst hmem; simp
   | z::u::r,_,hp,hall =>
    have a1:=hall z (by simp)
    have a2:=hall u (by simp)
    have a3:=(List.pairwise_cons.1 hp).1 u (by simp)
    omega
 omega
end Go.Proofs.YtlbjjkbppbmihaaGreat
namespace Go.Proofs.YtlbjjkbppbmihaaGreat
open Go.RowKit
theorem sorted_ext:∀ (l m:List Ln),l.Pairwise (fun x y=>x.rank<y.rank)→m.Pairwise (fun x y=>x.rank<y.rank)→(∀ x,x ∈ l↔x ∈ m)→l=m
 | [],[],_,_,_=>rfl
 | [],y::m,_,_,h=>absurd ((h y).2 (by simp)) (by simp)
 | x::l,[],_,_,h=>absurd ((h x).1 (by simp)) (by simp)
 | x::l,y::m,h1,h2,h=>by
  rw [List.pairwise_cons] at h1 h2
  have exy:x=y:=by
   have a:=(h x).1 (by simp)
   have b:=(h y).2 (by simp)
   rcases List.mem_cons.1 a with a | a
   ·exact a
   ·rcases List.mem_cons.1 b with b | b
    ·exact b.symm
    ·have c:=h2.1 x a
     have d:=h1.1 y b
     omega
  subst exy
  congr 1
  refine sorted_ext l m h1.2 h2.2 fun z=>?_
  constructor
  ·intro hz
   rcases List.mem_cons.1 ((h z).1 (by simp [hz])) with e | e
   ·subst e; have:=h1.1 z hz; omega
   ·exact e
  ·intro hz
   rcases List.mem_cons.1 ((h z).2 (by simp [hz])) with e | e
   ·subst e; have:=h2.1 z hz; omega
   ·exact e
theorem Inv.ext {ls ms:List Ln} (h:Inv ls) (k:Inv ms) (e:∀ a b c,lineL ls a b c=lineL ms a b c):ls=ms:=by
 refine sorted_ext ls ms h.sorted k.sorted fun x=>?_
 constructor
 ·intro hx
  have:=(line_iff h x.cr x.de x.cu x).2 ⟨hx,rfl,rfl,rfl⟩
  rw [e] at this
  exact ((line_iff k _ _ _ _).1 this).1
 ·intro hx
  have:=(line_iff k x.cr x.de x.cu x).2 ⟨hx,rfl,rfl,rfl⟩
  rw [← e] at this
  exact ((line_iff h _ _ _ _).1 this).1
theorem lnAt_some {ls:List Ln} {a b c:Int} {x:Ln} (h:lineL ls a b c=some x):lnAt ls a b c=x:=by unfold lnAt; rw [h]; rfl
theorem lnAt_none {ls:List Ln} {a b c:Int} (h:lineL ls a b c=none):lnAt ls a b c=noLn:=by unfold lnAt; rw [h]; rfl
theorem owe_set {ls:List Ln} (h:Inv ls) {a b c d:Int} {x:Ln} (hx:lineL ls a b c=some x) (h0:0≤d) (h1:d≤x.li) :
  Inv (setL ls (x.owe d))∧(∀ a' b' c',lineL (setL ls (x.owe d)) a' b' c'=if a=a'∧b=b'∧c=c' then some (x.owe d) else lineL ls a' b' c') ∧
   (∀ f:Ln→Int,f noLn=0→((setL ls (x.owe d)).map f).sum=(ls.map f).sum - f x + f (x.owe d))∧(setL ls (x.owe d)).length=ls.length:=by
 obtain ⟨hm,k1,k2,k3⟩:=(line_iff h a b c x).1 hx
 have hg:=h.good x hm
 have hg2:(x.owe d).Good:=⟨hg.cr,hg.de,hg.cu,hg.ne,hg.li,⟨h0,h1⟩⟩
 have hli:(x.owe d).li≠0:=by have:=hg.li; show x.li≠0; omega
 refine ⟨h.set (fun _=>hg2),fun a' b' c'=>?_,fun f hf=>?_,?_⟩
 ·rw [line_set h (fun _=>hg2) hg2.fits a' b' c',if_neg hli]
  show (if x.cr=a'∧x.de=b'∧x.cu=c' then _ else _)=_
  rw [k1,k2,k3]
 ·rw [sum_set h hg2.fits f hf,if_neg hli]
  congr 2
  show f (lnAt ls x.cr x.de x.cu)=f x
  rw [k1,k2,k3,lnAt_some hx]
 ·have h2:((setL ls (x.owe d)).map fun _=>(1:Int)).sum=(ls.map fun _=>(1:Int)).sum:=by
   have e1:((setL ls (x.owe d)).map fun y:Ln=>if y=noLn then (0:Int) else 1).sum=(ls.map fun y:Ln=>if y=noLn then (0:Int) else 1).sum:=by
    rw [sum_set h hg2.fits (fun y=>if y=noLn then (0:Int) else 1) (by simp),if_neg hli]
    show _ - (if lnAt ls x.cr x.de x.cu=noLn then (0:Int) else 1) + _=_
    rw [k1,k2,k3,lnAt_some hx]
    have n1:x≠noLn:=by rintro rfl; have:=hg.li; simp [noLn] at this
    have n2:x.owe d≠noLn:=by intro e; have:=congrArg Ln.li e; exact hli this
    rw [if_neg n1,if_neg n2]
    omega
   have e2:∀ l:List Ln,(∀ y ∈ l,y.Good)→(l.map fun y:Ln=>if y=noLn then (0:Int) else 1)=l.map fun _=>(1:Int):=by
    intro l hl
    refine List.map_congr_left fun y hy=>?_
    have n1:y≠noLn:=by rintro rfl; have:=(hl _ hy).li; simp [noLn] at this
    rw [if_neg n1]
   rw [e2 _ (h.set (fun _=>hg2)).good,e2 _ h.good] at e1
   exact e1
  have e3:∀ l:List Ln,(l.map fun _=>(1:Int)).sum=(l.length:Int):=by
   intro l
   induction l with
   | nil=>rfl
   | cons y r ih=>simp only [List.map_cons,List.sum_cons,List.length_cons,ih]; omega
  rw [e3,e3] at h2
  omega
theorem push_done {ls:List Ln} (h:Inv ls) {a b c n:Int} (hab:a≠b) (h1:1≤n) (hr:n≤(lnAt ls a b c).db + (lnAt ls b a c).li - (lnAt ls b a c).db) :
  Inv (pushTo ls a b c n)∧(pushTo ls a b c n).length=ls.length ∧
  (∀ a' b' c',lineL (pushTo ls a b c n) a' b' c'=if a=a'∧b=b'∧c=c' then (lineL ls a b c).map (fun x=>x.owe (x.db - min n x.db)) else if b=a'∧a=b'∧c=c' then (lineL ls b a c).map (fun y=>y.owe (y.db + (n - min n (lnAt ls a b c).db))) else lineL ls a' b' c') ∧
  (∀ f:Ln→Int,f noLn=0→((pushTo ls a b c n).map f).sum=(ls.map f).sum - f (lnAt ls a b c) + f ((lnAt ls a b c).owe ((lnAt ls a b c).db - min n (lnAt ls a b c).db)) - f (lnAt ls b a c) + f ((lnAt ls b a c).owe ((lnAt ls b a c).db + (n - min n (lnAt ls a b c).db)))):=by
 have bx:=lnAt_bd h.good a b c
 have by':=lnAt_bd h.good b a c
 have hown:noLn.owe 0=noLn:=rfl
 -- the first part
 obtain ⟨i1,l1,s1,n1⟩:Inv (push1 ls a b c n)∧(∀ a' b' c',lineL (push1 ls a b c n) a' b' c'=if a=a'∧b=b'∧c=c' then (lineL ls a b c).map (fun x=>x.owe (x.db - min n x.db)) else lineL ls a' b' c') ∧
   (∀ f:Ln→Int,f noLn=0→((push1 ls a b c n).map f).sum=(ls.map f).sum - f (lnAt ls a b c) + f ((lnAt ls a b c).owe ((lnAt ls a b c).db - min n (lnAt ls a b c).db)))∧(push1 ls a b c n).length=ls.length:=by
  unfold push1
  cases hl:lineL ls a b c with
  | none =>
   rw [if_neg (by simp),lnAt_none hl]
   refine ⟨h,fun a' b' c'=>?_,fun f hf=>?_,rfl⟩
   ·by_cases e:a=a'∧b=b'∧c=c'
    ·rw [if_pos e]; obtain ⟨rfl,rfl,rfl⟩:=e; rw [hl]; rfl
    ·rw [if_neg e]
   ·rw [show noLn.owe (noLn.db - min n noLn.db)=noLn by unfold Ln.owe noLn; simp; omega,hf]; omega
  | some x =>
   simp only [Option.isSome_some,if_true]
   rw [lnAt_some hl]
   rw [lnAt_some hl] at bx
   obtain ⟨q1,q2,q3,q4⟩:=owe_set h hl (d:=x.db - min n x.db) (by omega) (by omega)
   exact ⟨q1,q2,q3,q4⟩
 have e2:push2 ls a b c n=n - min n (lnAt ls a b c).db:=by
  unfold push2
  cases hl:lineL ls a b c with
  | none=>rw [if_neg (by simp),lnAt_none hl]; simp [noLn]; omega
  | some x=>simp only [Option.isSome_some,if_true]
 have hy1:lineL (push1 ls a b c n) b a c=lineL ls b a c:=by rw [l1,if_neg (by omega)]
 have hyA:lnAt (push1 ls a b c n) b a c=lnAt ls b a c:=by unfold lnAt; rw [hy1]
 unfold pushTo
 rw [e2,hyA]
 by_cases hp:0<n - min n (lnAt ls a b c).db
 ·rw [if_pos hp]
  have hex:∃ y,lineL ls b a c=some y:=by
   cases hl:lineL ls b a c with
   | none=>rw [lnAt_none hl] at by' hr; simp [noLn] at hr; omega
   | some y=>exact ⟨y,rfl⟩
  obtain ⟨y,hy⟩:=hex
  rw [lnAt_some hy] at by' hr ⊢
  obtain ⟨q1,q2,q3,q4⟩:=owe_set i1 (hy1.trans hy) (d:=y.db + (n - min n (lnAt ls a b c).db)) (by omega) (by omega)
  refine ⟨q1,q4.trans n1,fun a' b' c'=>?_,fun f hf=>?_⟩
  ·rw [q2]
   by_cases e:b=a'∧a=b'∧c=c'
   ·rw [if_pos e,if_neg (by omega),if_pos e,hy]; rfl
   ·rw [if_neg e,l1,if_neg e]
  ·rw [q3 f hf,s1 f hf]
 ·rw [if_neg hp]
  have hz:n - min n (lnAt ls a b c).db=0:=by omega
  rw [hz]
  refine ⟨i1,n1,fun a' b' c'=>?_,fun f hf=>?_⟩
  ·rw [l1]
   by_cases e:a=a'∧b=b'∧c=c'
   ·rw [if_pos e,if_pos e]
   ·rw [if_neg e,if_neg e]
    by_cases e':b=a'∧a=b'∧c=c'
    ·rw [if_pos e']
     obtain ⟨rfl,rfl,rfl⟩:=e'
     cases lineL ls b a c with
     | none=>rfl
     | some y=>simp [Ln.owe]
    ·rw [if_neg e']
  ·rw [s1 f hf]
   rw [show (lnAt ls b a c).owe ((lnAt ls b a c).db + 0)=lnAt ls b a c by unfold Ln.owe; simp]
   omega
end Go.Proofs.YtlbjjkbppbmihaaGreat
namespace Go.Proofs.YtlbjjkbppbmihaaGreat
open Go.RowKit
theorem posOf_noLn (p c:Int):posOf p c noLn=0:=by unfold posOf noLn; simp
structure LInv (ps:List Int) (ls:List Ln):Prop where
 inv:Inv ls
 len:ls.length≤64
 ends:∀ x ∈ ls,x.cr ∈ ps∧x.de ∈ ps
 bd:∀ p ∈ ps,1≤p∧p≤16
 rise:ps.Pairwise (·<·)
theorem LInv.nil:LInv [] []:=⟨Inv.nil,by simp,by simp,by simp,List.Pairwise.nil⟩
theorem setL_len_there {ls:List Ln} (h:Inv ls) (x:Ln) {y:Ln} (hy:y ∈ ls) (hr:y.rank=x.rank):(setL ls x).length≤ls.length:=by
 have hsp:=split_sorted x.rank ls h.sorted
 have hm:y ∈ eqL x.rank ls:=by unfold eqL; exact List.mem_filter.2 ⟨hy,by simpa using hr⟩
 have h1:1≤(eqL x.rank ls).length:=List.length_pos_of_mem hm
 have h2:=congrArg List.length hsp
 rw [List.length_append,List.length_append] at h2
 rw [setL_eq h.sorted,List.length_append,List.length_append]
 split <;> simp <;> omega
theorem LInv.push {ps:List Int} {ls:List Ln} (h:LInv ps ls) (a b c n:Int):LInv ps (pushL ps ls a b c n):=by
 unfold pushL
 by_cases he:pushE ps ls a b c n=0
 ·rw [if_pos he]
  have h1:1≤n∧n≤roomL ps ls a b c:=by unfold pushE at he; (repeat' split at he) <;> omega
  have hz:¬ (a=b∨a ∉ ps∨b ∉ ps):=by
   intro hz
   unfold roomL at h1
   rw [if_pos hz] at h1
   omega
  have hr':n≤(lnAt ls a b c).db + (lnAt ls b a c).li - (lnAt ls b a c).db:=by unfold roomL at h1; rw [if_neg hz] at h1; exact h1.2
  obtain ⟨i,l,f,_⟩:=push_done h.inv (fun k=>hz (.inl k)) h1.1 hr'
  refine ⟨i,by rw [l]; exact h.len,fun x hx=>?_,h.bd,h.rise⟩
  have hx2:=(line_iff i x.cr x.de x.cu x).2 ⟨hx,rfl,rfl,rfl⟩
  rw [f] at hx2
  have ha:a ∈ ps:=Classical.byContradiction fun k=>hz (.inr (.inl k))
  have hb:b ∈ ps:=Classical.byContradiction fun k=>hz (.inr (.inr k))
  split at hx2
  ·rename_i k; rw [← k.1,← k.2.1]; exact ⟨ha,hb⟩
  ·split at hx2
   ·rename_i k; rw [← k.1,← k.2.1]; exact ⟨hb,ha⟩
   ·exact h.ends x (lineL_mem hx2).1
 ·rw [if_neg he]; exact h
theorem LInv.forgive {ps:List Int} {ls:List Ln} (h:LInv ps ls) (a b c n:Int):LInv ps (forgiveL ls a b c n):=by
 unfold forgiveL
 by_cases he:forgiveE ls a b c n=0
 ·rw [if_pos he]
  unfold forgiveE at he
  cases hl:lineL ls a b c with
  | none=>rw [hl] at he; (repeat' split at he) <;> simp_all
  | some x =>
   rw [lnAt_some hl] at he ⊢
   have h1:1≤n∧n≤x.db:=by (repeat' split at he) <;> omega
   have hg:=h.inv.good x (lineL_mem hl).1
   have hdb:=hg.db
   obtain ⟨i,f,_,l⟩:=owe_set h.inv hl (d:=x.db - n) (by omega) (by omega)
   refine ⟨i,by rw [l]; exact h.len,fun y hy=>?_,h.bd,h.rise⟩
   have hy2:=(line_iff i y.cr y.de y.cu y).2 ⟨hy,rfl,rfl,rfl⟩
   rw [f] at hy2
   split at hy2
   ·rename_i k
    obtain ⟨m,k1,k2,_⟩:=lineL_mem hl
    have:=h.ends x m
    rw [← k.1,← k.2.1,← k1,← k2]; exact this
   ·exact h.ends y (lineL_mem hy2).1
 ·rw [if_neg he]; exact h
theorem LInv.trust {ps:List Int} {ls:List Ln} (h:LInv ps ls) (a b c n:Int):LInv ps (trustL ps ls a b c n):=by
 unfold trustL
 by_cases he:trustE ps ls a b c n=0
 ·rw [if_pos he]
  have hs:¬ (a<1∨16<a∨b<1∨16<b∨c<1∨8<c∨a=b∨n<0∨1099511627776<n)∧¬ (a ∉ ps∨b ∉ ps)∧¬ n<(lnAt ls a b c).db∧¬ (lineL ls a b c=none∧0<n∧64≤ls.length):=by
   unfold trustE at he
   split at he
   ·omega
   ·split at he
    ·omega
    ·split at he
     ·omega
     ·split at he
      ·omega
      ·rename_i k1 k2 k3 k4; exact ⟨k1,k2,k3,k4⟩
  obtain ⟨k1,k2,k3,k4⟩:=hs
  have bx:=lnAt_bd h.inv.good a b c
  have hg:(⟨a,b,c,n,(lnAt ls a b c).db⟩:Ln).li≠0→(⟨a,b,c,n,(lnAt ls a b c).db⟩:Ln).Good:=fun hn=>by
   have hn':n≠0:=hn
   refine ⟨⟨?_,?_⟩,⟨?_,?_⟩,⟨?_,?_⟩,?_,⟨?_,?_⟩,⟨?_,?_⟩⟩ <;> simp only <;> omega
  have hf:(⟨a,b,c,n,(lnAt ls a b c).db⟩:Ln).Fits:=fits_mk ⟨by omega,by omega⟩ ⟨by omega,by omega⟩ ⟨by omega,by omega⟩ ⟨by omega,by omega⟩ ⟨by omega,by omega⟩
  refine ⟨h.inv.set hg,?_,fun y hy=>?_,h.bd,h.rise⟩
  ·cases hl:lineL ls a b c with
   | none =>
    by_cases hn:0<n
    ·have h1:ls.length<64:=Nat.lt_of_not_le fun k=>k4 ⟨hl,hn,k⟩
     have h2:=setL_len ls ⟨a,b,c,n,(lnAt ls a b c).db⟩
     omega
    ·have h0:n=0:=by omega
     have h2:=congrArg List.length (split_sorted (⟨a,b,c,n,(lnAt ls a b c).db⟩:Ln).rank ls h.inv.sorted)
     have h3:=h.len
     rw [List.length_append,List.length_append] at h2
     rw [setL_eq h.inv.sorted,List.length_append,List.length_append,if_pos (show (⟨a,b,c,n,(lnAt ls a b c).db⟩:Ln).li=0 from h0)]
     simp only [List.length_nil]
     omega
   | some x =>
    obtain ⟨m,e1,e2,e3⟩:=lineL_mem hl
    exact Nat.le_trans (setL_len_there h.inv _ m (rank_of e1 e2 e3)) h.len
  ·rcases (setL_mem_iff h.inv.sorted _ y).1 hy with ⟨m,_⟩ | ⟨rfl,_⟩
   ·exact h.ends y m
   ·exact ⟨Classical.byContradiction fun k=>k2 (.inl k),Classical.byContradiction fun k=>k2 (.inr k)⟩
 ·rw [if_neg he]; exact h
end Go.Proofs.YtlbjjkbppbmihaaGreat
namespace Go.Proofs.YtlbjjkbppbmihaaGreat
open Go.RowKit
theorem openTo_mem {ps:List Int} {p q:Int}:q ∈ openTo ps p 17↔(1≤q∧q≤16)∧(q=p∨q ∈ ps):=by
 unfold openTo
 rw [List.mem_filter,List.mem_map]
 constructor
 ·rintro ⟨⟨i,hi,rfl⟩,h⟩
  rw [List.mem_range] at hi
  simp at h
  exact ⟨⟨by omega,by omega⟩,h⟩
 ·rintro ⟨⟨h1,h2⟩,h⟩
  refine ⟨⟨q.toNat - 1,List.mem_range.2 (by omega),by omega⟩,by simpa using h⟩
theorem openTo_rise (ps:List Int) (p:Int) (k:Nat):(openTo ps p k).Pairwise (·<·):=by
 unfold openTo
 refine List.Pairwise.filter _ (List.pairwise_map.2 ?_)
 exact (List.pairwise_lt_range).imp fun {a b} h=>by omega
theorem LInv.open {ps:List Int} {ls:List Ln} (h:LInv ps ls) (p:Int):LInv (openP ps p) ls:=by
 unfold openP
 split
 ·exact h
 ·split
  ·exact h
  ·refine ⟨h.inv,h.len,fun x hx=>?_,fun q hq=>(openTo_mem.1 hq).1,openTo_rise _ _ _⟩
   obtain ⟨h1,h2⟩:=h.ends x hx
   exact ⟨openTo_mem.2 ⟨h.bd _ h1,.inr h1⟩,openTo_mem.2 ⟨h.bd _ h2,.inr h2⟩⟩
def limL (ls:List Ln):List Ln:=ls.map fun x=>x.owe 0
end Go.Proofs.YtlbjjkbppbmihaaGreat
