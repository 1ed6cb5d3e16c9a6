/-
  Pieces of one proof, without what is not wanted: PRound.
-/
import Derived.Test.YtlbjjkbppbmihaaGreatP09
import Derived.WalkMore
import Derived.ScopeJumps
set_option linter.unusedSimpArgs false
set_option linter.unusedVariables false
namespace Go.Proofs.YtlbjjkbppbmihaaGreat
open Go.RowKit
theorem zero_search:(∀ w,(zeroValue 169).run Tryz.prog w=.ok (.agg (srC (fun _=>0) (fun _=>0))) w)∧(Tryz.prog.info? 169).map (·.size)=some 34:=by
 have h:srC (fun _=>0) (fun _=>0)=#[.int .i64 0,.int .i64 0,.int .i64 0,.int .i64 0,.int .i64 0,.int .i64 0,.int .i64 0,.int .i64 0,.int .i64 0,.int .i64 0,.int .i64 0,.int .i64 0,.int .i64 0,.int .i64 0,.int .i64 0,.int .i64 0,.int .i64 0,
   .int .u8 0,.int .u8 0,.int .u8 0,.int .u8 0,.int .u8 0,.int .u8 0,.int .u8 0,.int .u8 0,.int .u8 0,.int .u8 0,.int .u8 0,.int .u8 0,.int .u8 0,.int .u8 0,.int .u8 0,.int .u8 0,.int .u8 0]:=by
  apply Array.ext (by rw [srC_size]; rfl)
  intro i h1 h2
  have h34:i<34:=by rw [srC_size] at h1; exact h1
  have e:(srC (fun _=>0) (fun _=>0))[i]=if i<17 then .int .i64 0 else .int .u8 0:=by
   have q:(srC (fun _=>0) (fun _=>0))[i]? = some (if i<17 then Value.int .i64 0 else .int .u8 0):=by
    by_cases hi:i<17
    ·rw [srC_far _ _ hi,if_pos hi]
    ·have:=srC_ahd (fun _=>0) (fun _=>0) (i:=i - 17) (by omega)
     rw [show 17 + (i - 17)=i by omega] at this
     rw [this,if_neg hi]
   rw [Array.getElem?_eq_getElem h1] at q
   simpa using q
  rw [e]
  have hi:i=0∨i=1∨i=2∨i=3∨i=4∨i=5∨i=6∨i=7∨i=8∨i=9∨i=10∨i=11∨i=12∨i=13∨i=14∨i=15∨i=16∨i=17∨i=18∨i=19∨i=20∨i=21∨i=22∨i=23∨i=24∨i=25∨i=26∨i=27∨i=28∨i=29∨i=30∨i=31∨i=32∨i=33:=by omega
  rcases hi with rfl | rfl | rfl | rfl | rfl | rfl | rfl | rfl | rfl | rfl | rfl | rfl | rfl | rfl | rfl | rfl | rfl | rfl | rfl | rfl | rfl | rfl | rfl | rfl | rfl | rfl | rfl | rfl | rfl | rfl | rfl | rfl | rfl | rfl <;> rfl
 rw [h]
 exact zero_of_info (by kernel_rfl)
theorem roundW_go {es:List Ed} (h:∀ n,n<16→(passN es (n + 1)).pt≠0):roundW es≠[]:=by
 unfold roundW
 rw [if_pos (List.all_eq_true.2 fun n hn=>by simpa using h n (by simpa using hn))]
 unfold roundL backL
 simp
theorem chainL_mem {f:Int→Int} {p x:Int} {n:Nat}:x ∈ chainL f p n↔∃ i,i<n∧itr f i p=x:=by unfold chainL; simp
theorem chainL_backL {f:Int→Int} {l:Int} {K:Nat} (h1:1≤K) (hK:itr f K l=l):chainL f (f l) K=backL f l (K - 1):=by
 obtain ⟨n,rfl⟩:∃ n,K=n + 1:=⟨K - 1,by omega⟩
 rw [chainL_succ]
 show itr f (n + 1) l::_=_
 rw [hK]
 rfl
theorem least_is {f:Int→Int} {a m:Int} {K:Nat} (h1:1≤K) (hm:m ∈ chainL f a K) (hle:∀ x ∈ chainL f a K,m≤x):m=leastC f a (K - 1):=by
 obtain ⟨i,i1,i2⟩:=leastC_mem f a (K - 1)
 obtain ⟨j,j1,j2⟩:=chainL_mem.1 hm
 have a1:=hle (leastC f a (K - 1)) (chainL_mem.2 ⟨i,by omega,i2.symm⟩)
 have a2:=leastC_le f a (K - 1) j (by omega)
 omega
def RdAt (w:World) (es:List Ed) (lv i:Value) (wr:World):Prop :=
 ∃ k:Nat,k<16∧i=.int .i64 ((k:Int) + 1)∧(∀ j,j<k→(passN es (j + 1)).pt≠0)∧Blk wr w.heap.size (srC (passN es k).far (passN es k).ahd) 169∧Below w.heap.size w wr
def HpAt (w:World) (s:BF) (lv i:Value) (wr:World):Prop :=
 ∃ j:Nat,j≤16∧i=.int .i64 j∧lv=.int .u8 (itr s.ahd j s.pt)∧Blk wr w.heap.size (srC s.far s.ahd) 169∧Below w.heap.size w wr
set_option maxHeartbeats 8000000 in
set_option maxRecDepth 100000 in
theorem pround_any {w:World} {ao:Option Addr} {cap:Nat} {es:List Ed} (hr:Reads w (.slice ao es.length cap) 3 es.length (edCells es)) (hfit:∀ e ∈ es,e.Fits) (hln:es.length≤600) :
  Calls Tryz.prog 89 #[.slice ao es.length cap] w (RowPost 30 (roundW es) w):=by
 obtain ⟨ao',cap',hv,_,_,hcell⟩:=hr
 cases hv
 have HC:Hid (0<es.length→∃ b off,ao=some ⟨b,off,none⟩∧b<w.heap.size∧∀ m,(hm:m<es.length)→∀ j,j<3→w.cell? ⟨b,off + m * 3 + j,none⟩=es[m].vals[j]?):=Lib.hid fun h0=>by
  obtain ⟨b,off,h1,h2,h3⟩:=hcell h0
  refine ⟨b,off,h1,h2,fun m hm j hj=>?_⟩
  have:=h3 (m * 3 + j) (by omega)
  rw [edCells_get es m j hj hm] at this
  rw [← this,Nat.add_assoc]
 have HF:=Lib.hid hfit
 clear hcell hfit
 have hz:=zero_search.1
 have B0:=Lib.hid ((Below.refl w.heap.size w).alloc (Nat.le_refl _) (.cells (srC (fun _=>0) (fun _=>0)) 169))
 have K0:=Lib.hid (Blk.new w (srC (fun _=>0) (fun _=>0)) 169)
 go_enter Tryz.func89,Tryz.ntmps89
 go_wp2_with fail
 go_step3
 go_wp2_with fail
 go_step3
 go_wp2_with fail
 go_loopw [4,5] (RdAt w es) (fun _ i _=>17 - (intOf i).toNat)
 case atStart=>exact ⟨0,by omega,rfl,fun j h=>by omega,K0.out,B0.out⟩
 case round =>
  clear K0 B0 hz
  obtain ⟨k,hk,rfl,hall,hK,hB⟩:=hrel
  have KS:=Lib.hid hK
  have BB:=Lib.hid hB
  have HALL:=Lib.hid hall
  clear hK hB hall
  have CS:=Lib.hid (shorten_any (cap:=cap) KS.out hk HF.out hln (fun h0=>by
   obtain ⟨b,off,h1,h2,h3⟩:=HC.out h0
   exact ⟨b,off,h1,h2,fun m hm j hj=>(BB.out.cell (p:=⟨b,off + m * 3 + j,none⟩) h2).trans (h3 m hm j hj)⟩))
  go_wp2_with fail
  refine CS.out.mono ?_
  rintro e w1 ⟨rfl,hK1,hB1⟩
  have KS1:=Lib.hid hK1
  have B1:=Lib.hid (BB.out.trans hB1)
  clear hK1 hB1 CS KS BB
  by_cases hpt:(passN es (k + 1)).pt=0
  ·have q0:((passN es (k + 1)).pt==0)=true:=by simpa using hpt
   have HL:=Lib.hid (roundW_stop hk hpt)
   clear hpt
   generalize (passN es (k + 1)).pt=pt at *
   go_wp2_with fail
   rw [Exit.noGoto_ret]
   refine bodyPost_ret (v:=.slice none 0 0) (by simp [results,Tryz.results89,go_sem]) rfl ?_
   rw [HL.out]
   exact ⟨_,rfl,⟨rfl,.inl ⟨rfl,rfl⟩⟩,B1.out⟩
  ·have q0:((passN es (k + 1)).pt==0)=false:=by simpa using hpt
   have HALL1:Hid (∀ j,j<k + 1→(passN es (j + 1)).pt≠0):=Lib.hid fun j hj=>by
    by_cases e:j=k
    ·subst e; exact hpt
    ·exact HALL.out j (by omega)
   clear hpt HALL
   by_cases hk15:k=15
   ·subst hk15
    have hne:=roundW_go (fun n hn=>HALL1.out n (by omega))
    obtain ⟨K,l,hK,hl,hin,hR,hW⟩:=roundW_some hne
    have hpt16:(passN es 16).pt≠0:=HALL1.out 15 (by omega)
    have HFND:=Lib.hid (round_found hpt16).1
    have HCY:=Lib.hid (cycK_spec (round_found hpt16).2)
    have KS2:Hid (Blk w1 w.heap.size (srC (passN es 16).far (passN es 16).ahd) 169):=Lib.hid KS1.out
    have q1:((passN es 16).pt==0)=false:=q0
    have E15:(passN es (15 + 1)).pt=(passN es 16).pt:=rfl
    clear q0 hne hpt16 HALL1 KS1
    simp only [E15]
    have HIN:=Lib.hid hin
    have HR:=Lib.hid hR
    have HW:=Lib.hid hW
    have HK:=Lib.hid hK
    have HL:=Lib.hid hl
    clear hin hR hW E15 hK hl
    generalize passN es 16=s at *
    go_wp2_with fail
    go_loopw [4,17] (HpAt w s) (fun _ i _=>16 - (intOf i).toNat)
    case atStart=>exact ⟨0,by omega,rfl,rfl,KS2.out,B1.out⟩
    case round =>
     clear KS2 B1
     obtain ⟨j,hj,rfl,rfl,hK1,hB1⟩:=hrel
     have KS:=Lib.hid hK1
     have BB:=Lib.hid hB1
     have hgl:=hK1.lt
     clear hK1 hB1
     by_cases hj16:j<16
     ·obtain ⟨x1,x2⟩:=HFND.out j (by omega)
      have IS:=Lib.hid (itr_succ s.ahd j s.pt)
      generalize itr s.ahd j s.pt=x at *
      have dk:=KS.out.srAhd (p:=x) (by omega) (by omega)
      have hji:(j:Int)<16:=by omega
      go_wp2_with fail
      go_roundw
      case rel=>exact ⟨j + 1,by omega,by go_num,by rw [IS.out],KS.out,BB.out⟩
      case measure=>simp [intOf]; omega
     ·obtain rfl:j=16:=by omega
      obtain ⟨c1,c2,c3,c4⟩:=HCY.out
      have e1:=HK.out
      have e2:=HL.out
      have hin:=HIN.out
      generalize itr s.ahd 16 s.pt=a at *
      rw [← e1] at c1 c2 c3 c4
      have CT:=Lib.hid (turned_any (w:=wr) (g:=w.heap.size) (off:=17) (ah:=s.ahd) (p:=a) (n:=K) hgl (fun c hc=>by rw [KS.out.cell,srC_ahd _ _ hc]) (fun i _=>hin i)
       (fun i j hij hj=>by
        rcases Nat.eq_zero_or_pos i with h0 | h0
        ·subst h0; exact fun e=>c4 j (by omega) hj e.symm
        ·exact itr_inj c3 c4 h0 hij (by omega)) (.inr ⟨0,by omega,c3.symm⟩) c1 c2)
      have LM:Hid (∀ m,m ∈ chainL s.ahd a K→(∀ x ∈ chainL s.ahd a K,m≤x)→m=l):=Lib.hid fun m h1 h2=>by rw [least_is c1 h1 h2,e2]
      have LL:=Lib.hid (chainL_len s.ahd a K)
      generalize chainL s.ahd a K=L at *
      have C1:=Lib.hid c1
      have C2:=Lib.hid c2
      clear c1 c2 c3 c4 e1 e2 hin HFND HCY HK HL HIN
      go_wp2_with fail
      refine CT.out.mono ?_
      rintro e w2 ⟨v1,rfl,hrow,hb2⟩
      have KS2:=Lib.hid (KS.out.below hb2 hgl)
      have B2:=Lib.hid (BB.out.trans (hb2.mono BB.out.size))
      have CM:=Lib.hid (minP_any (hrow.reads (by rw [LL.out]; have:=C2.out; omega)) (by rw [LL.out]; have:=C1.out; omega))
      clear CT hrow hb2 KS BB
      go_wp2_with fail
      refine CM.out.mono ?_
      rintro e w3 ⟨m,rfl,hm1,hm2,rfl⟩
      obtain rfl:=LM.out m hm1 hm2
      obtain ⟨m1,m2⟩:=HR.out.ends 0
      have m1:1≤m:=m1
      have m2:m≤16:=m2
      have dk:=KS2.out.srAhd (p:=m) (by omega) (by omega)
      have hg3:=KS2.out.lt
      have CT:=Lib.hid (turned_any (w:=w3) (g:=w.heap.size) (off:=17) (ah:=s.ahd) (p:=s.ahd m) (n:=K) hg3 (fun c hc=>by rw [KS2.out.cell,srC_ahd _ _ hc]) (fun i _=>HR.out.ends (i + 1))
       (fun i j hij hj=>itr_inj HR.out.back HR.out.apart (i:=i + 1) (k:=j + 1) (by omega) (by omega) (by omega)) (.inr ⟨0,by have:=C1.out; omega,by
        show s.ahd m=itr s.ahd (K + 1) m
        rw [itr_succ,HR.out.back]⟩) C1.out C2.out)
      rw [chainL_backL C1.out HR.out.back,← HW.out] at CT
      clear CM hm1 hm2 LM LL
      generalize roundW es=R at *
      generalize s.ahd m=y at *
      go_wp2_with fail
      refine CT.out.mono ?_
      rintro e w4 ⟨v2,rfl,hrow,hb4⟩
      have R4:=Lib.hid (hrow.base (b':=w.heap.size) (Nat.le_of_lt hg3))
      have B4:=Lib.hid (B2.out.trans (hb4.mono B2.out.size))
      clear CT hrow hb4
      go_wp2_with fail
      rw [Exit.noGoto_ret]
      refine bodyPost_ret (v:=v2) (by simp [results,Tryz.results89,go_sem]) rfl ?_
      exact ⟨v2,rfl,R4.out,B4.out⟩
   ·have hk2:((k:Int) + 1==16)=false:=by simp; omega
    generalize (passN es (k + 1)).pt=pt at *
    go_wp2_with fail
    go_roundw
    case rel=>exact ⟨k + 1,by omega,by go_num,HALL1.out,KS1.out,B1.out⟩
    case measure=>simp [intOf]; omega
end Go.Proofs.YtlbjjkbppbmihaaGreat
