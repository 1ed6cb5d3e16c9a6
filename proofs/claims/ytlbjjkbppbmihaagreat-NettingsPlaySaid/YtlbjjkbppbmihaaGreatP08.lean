/-
  Pieces of one proof, without what is not wanted: Ref06r.
-/
import Derived.Test.YtlbjjkbppbmihaaGreatP03
import Derived.Test.YtlbjjkbppbmihaaGreatP07
set_option linter.unusedSimpArgs false
set_option linter.unusedVariables false
namespace Go.Proofs.YtlbjjkbppbmihaaGreat
open Go.RowKit
def Ed.vals (e:Ed):List Value:=[.int .u8 e.fr,.int .u8 e.tt,.int .i8 e.co]
theorem Ed.vals_len (x:Ed):x.vals.length=3:=rfl
def edCells (ls:List Ed):List Value:=ls.flatMap Ed.vals
theorem edCells_len (ls:List Ed):(edCells ls).length=ls.length * 3:=flat_len _ 3 Ed.vals_len ls
theorem edCells_get (ls:List Ed) (i j:Nat) (hj:j<3) (h:i<ls.length):(edCells ls)[i * 3 + j]? = ls[i].vals[j]? := by
 unfold edCells
 rw [flat_get _ 3 Ed.vals_len ls i j hj,List.getElem?_eq_getElem h]
 rfl
structure Ed.Fits (x:Ed):Prop where
 fr:In8 x.fr
 tt:In8 x.tt
 co:-128≤x.co∧x.co≤127
def ahA (g:Int→Int):Array Value:=rowA (fun _ q=>.int .u8 (g q)) 0
theorem ahA_size (g:Int→Int):(ahA g).size=17:=rowA_size _ _
theorem ahA_get (g:Int→Int) {i:Nat} (h:i<17):(ahA g)[i]? = some (.int .u8 (g i)):=rowA_get _ _ h
theorem ahA_set (g:Int→Int) {i:Nat} (hi:i<17) (n:Int):(ahA g).setIfInBounds i (.int .u8 n)=ahA (upI g i n):=by
 unfold ahA
 rw [rowA_set _ _ hi]
 refine rowA_congr fun j hj=>?_
 unfold upI
 try dsimp only
 split <;> rfl
theorem Blk.ahAt {w:World} {g:Nat} {l:Int→Int} {t:TypeId} (h:Blk w g (ahA l) t) {p:Int} (h0:0≤p) (h1:p<17):w.cell? ⟨g,p.toNat,none⟩=some (.int .u8 (l p)):=by
 rw [h.cell,ahA_get l (by omega),Int.toNat_of_nonneg h0]
theorem Blk.ahSet {w:World} {g:Nat} {l:Int→Int} {t:TypeId} (h:Blk w g (ahA l) t) {p:Int} (h0:0≤p) (h1:p<17) (n:Int):Blk (w.setCell ⟨g,p.toNat,none⟩ (.int .u8 n)) g (ahA (upI l p n)) t:=by
 have:=h.set p.toNat (.int .u8 n)
 rw [ahA_set l (by omega),Int.toNat_of_nonneg h0] at this
 exact this
theorem zero_ah:(∀ w,(zeroValue 149).run Tryz.prog w=.ok (.agg (ahA fun _=>0)) w)∧(Tryz.prog.info? 149).map (·.size)=some 17 :=
 zero_of_info (by kernel_rfl)
attribute [irreducible] ahA
def tailA (b cap:Nat):Addr:=if cap=1 then ⟨b,0,none⟩ else ⟨b,1,none⟩
theorem run_tail {P:Program} (w:World) (t e:TypeId) (ht:P.underlying t=some (.slice e)) (hs:(sizeOf e).run P w=.ok 1 w) (b n cap:Nat) (h1:1≤n) (h:n≤cap) :
  (Instr.sliceAt t (.slice (some ⟨b,0,none⟩) n cap) (some (.int .i64 1)) none none).run P w=.ok (.slice (some (tailA b cap)) (n - 1) (cap - 1)) w:=by
 have hb:(Instr.sliceBound (.int .i64 1) n .sliceB).run P w=.ok 1 w:=by
  have hn:(0:Int)≤1∧(1:Int)≤(n:Int):=⟨by decide,by omega⟩
  simp [Instr.sliceBound,asIntOf,hn,go_sem]
 by_cases hc:cap=1
 ·simp [Instr.sliceAt,Instr.slice,run_underlying ht,Instr.sliceBounds,hb,hs,Result.andThen,tailA,hc]
 ·simp [Instr.sliceAt,Instr.slice,run_underlying ht,Instr.sliceBounds,hb,hs,Result.andThen,tailA,hc,Addr.add]
theorem wpList_append_tail (w:World) {ops:Array Oper} {rest:List Oper} {o:Oper} {a:Act} {Q:Exit→Act→World→Prop} (hgd:o.guard=none) (s x:Operand)
  (ho:o.op=.call { callee:=.builtin .append,args:=#[s,x],argTypes:=#[67,67] }) (base:Nat) (l p:Int) (g2:Nat) (hs:a.eval s=.slice (some ⟨g2,0,none⟩) 2 2)
  (h2:Blk w g2 #[.int .u8 l,.int .u8 p] 30) (hg2:base≤g2) (bo cp:Nat) (ys:List Int) (m:Nat) (hm:m=ys.length) (hx:a.eval x=.slice (some (tailA bo cp)) m (cp - 1)) (hys:∀ j y,ys[j]? = some y→w.cell? ⟨bo,1 + j,none⟩=some (.int .u8 y))
  (hcp:ys.length + 1≤cp) (hlen:ys.length≤1000)
  (h:∀ v' w',w'.ownsRow base 30 1 v' (l::p::ys).length ((l::p::ys).map (.int .u8))→w.grownBy w' (some g2)→wpList Tryz.prog ops Q rest (a.put o.dst v') w'):wpList Tryz.prog ops Q (o::rest) a w:=by
 obtain ⟨i0,hi,hz0,hz1,hz2⟩:=info_parts info_party
 have hown:w.ownsRow base 30 1 (.slice (some ⟨g2,0,none⟩) 2 2) 2 [.int .u8 l,.int .u8 p]:=⟨rfl,.inr ⟨g2,2,#[.int .u8 l,.int .u8 p],rfl,hg2,h2,by simp,by simp [maxLen],rfl,rfl⟩⟩
 subst hm
 refine wpList_append_own w hgd s x 67 ho base 30 i0 (.int .u8 0) 1 1 Tryz.underlying67 hi hz0 hz1 hz2 rfl (by decide) _ 2 _ hs hown (tailA bo cp) ys.length (cp - 1) (ys.map (.int .u8)) hx (by simp) ?_ ?_ (by unfold maxLen; omega) (by omega) (Nat.le_trans hg2 (Nat.le_of_lt h2.lt)) ?_
 ·intro j u hj
  rw [List.getElem?_map] at hj
  obtain ⟨y,hy,rfl⟩:=Option.map_eq_some_iff.1 hj
  have hjl:=(List.getElem?_eq_some_iff.1 hy).1
  unfold tailA
  rw [if_neg (by omega),Addr.add_mid]
  exact hys j y hy
 ·intro u hu
  obtain ⟨y,_,rfl⟩:=List.mem_map.1 hu
  rfl
 ·intro v' w' h3 h4 _
  refine h v' w' ?_ h4
  have e1:(l::p::ys).length=2 + ys.length:=by simp; omega
  rw [e1]
  exact h3
def RndAt (w:World) (es:List Ed) (av i:Value) (wr:World):Prop :=
 ∃ (k:Nat) (p:Int),k≤16∧i=.int .i64 k∧av=.int .u8 p∧(0<k→p=(passN es k).pt)∧(∀ j,j<k→(passN es (j + 1)).pt≠0)∧Blk wr w.heap.size (ltA (passN es k).far) 102∧Blk wr (w.heap.size + 1) (ahA (passN es k).ahd) 149∧Below w.heap.size w wr
def RndIn (w:World) (es:List Ed) (k:Nat) (av i:Value) (wr:World):Prop :=
 ∃ (j:Nat) (s:BF),j≤es.length∧i=.int .i64 j∧Hid (s=(es.take j).foldl (stepE (k + 1)) { passN es k with pt:=0 })∧av=.int .u8 s.pt∧Blk wr w.heap.size (ltA s.far) 102∧Blk wr (w.heap.size + 1) (ahA s.ahd) 149∧Below w.heap.size w wr
theorem roundW_stop {es:List Ed} {k:Nat} (hk:k<16) (h:(passN es (k + 1)).pt=0):roundW es=[]:=by
 unfold roundW
 rw [if_neg]
 intro hc
 have:=List.all_eq_true.1 hc k (by simpa using hk)
 simp [h] at this
def HopAt (w:World) (s:BF) (av i:Value) (wr:World):Prop :=
 ∃ k:Nat,k≤16∧i=.int .i64 k∧av=.int .u8 (itr s.ahd k s.pt)∧Blk wr (w.heap.size + 1) (ahA s.ahd) 149∧Below w.heap.size w wr
def LeastAt (w:World) (g:Int→Int) (a:Int) (K:Nat) (lv pv:Value) (wr:World):Prop :=
 ∃ k:Nat,1≤k∧k≤K∧pv=.int .u8 (itr g k a)∧lv=.int .u8 (leastC g a (k - 1))∧Blk wr (w.heap.size + 1) (ahA g) 149∧Below w.heap.size w wr
def OutAt6 (w:World) (g:Int→Int) (l:Int) (K:Nat) (ov pv:Value) (wr:World):Prop :=
 ∃ k:Nat,1≤k∧k≤K∧pv=.int .u8 (itr g k l)∧wr.ownsRow w.heap.size 30 1 ov (backL g l (k - 1)).length ((backL g l (k - 1)).map (.int .u8))∧Blk wr (w.heap.size + 1) (ahA g) 149∧Below w.heap.size w wr
set_option maxHeartbeats 16000000 in
set_option maxRecDepth 100000 in
theorem rround_any {w:World} {ao:Option Addr} {cap:Nat} {es:List Ed} (hr:Reads w (.slice ao es.length cap) 3 es.length (edCells es)) (hfit:∀ e ∈ es,e.Fits) (hln:es.length≤600) :
  Calls Tryz.prog 77 #[.slice ao es.length cap] w (ShortPost (roundW es) w):=by
 obtain ⟨ao',cap',hv,_,_,hcell⟩:=hr
 cases hv
 have HC:Hid (0<es.length→∃ b off,ao=some ⟨b,off,none⟩∧b<w.heap.size∧∀ m,(hm:m<es.length)→∀ j,j<3→w.cell? ⟨b,off + m * 3 + j,none⟩=es[m].vals[j]?):=Lib.hid fun h0=>by
  obtain ⟨b,off,h1,h2,h3⟩:=hcell h0
  refine ⟨b,off,h1,h2,fun m hm j hj=>?_⟩
  have:=h3 (m * 3 + j) (by omega)
  rw [edCells_get es m j hj hm] at this
  rw [← this,Nat.add_assoc]
 have HF:=Lib.hid hfit
 have HB:=Lib.hid (fun k=>passN_bd (es:=es) (fun e he=>(hfit e he).co.1) k)
 clear hcell hfit
 have hz1:=zero_lt.1
 have hz2:=zero_ah.1
 have B0:=Lib.hid (((Below.refl w.heap.size w).alloc (Nat.le_refl _) (.cells (ltA fun _=>0) 102)).alloc (by simp) (.cells (ahA fun _=>0) 149))
 have K0:=Lib.hid ((Blk.new w (ltA fun _=>0) 102).alloc (.cells (ahA fun _=>0) 149))
 have A0:=Lib.hid (Blk.newAt (w.alloc (.cells (ltA fun _=>0) 102)) (ahA fun _=>0) 149 (g:=w.heap.size + 1) (by simp))
 go_enter Tryz.func77,Tryz.ntmps77
 go_wp2_with fail
 go_loopw [5,6] (RndAt w es) (fun _ i _=>16 - (intOf i).toNat)
 case atStart=>exact ⟨0,0,by omega,rfl,rfl,fun h=>by omega,fun j h=>by omega,K0.out,A0.out,B0.out⟩
 case round =>
  clear K0 A0 B0 hz1 hz2
  obtain ⟨k,pt,hk,rfl,rfl,hpt,hall,hF,hA,hB⟩:=hrel
  have KF:=Lib.hid hF
  have KA:=Lib.hid hA
  have BB:=Lib.hid hB
  have HALL:=Lib.hid hall
  have HPT:=Lib.hid hpt
  clear hF hA hB hall hpt
  by_cases hk16:k<16
  ·have hki:(k:Int)<16:=by omega
   go_wp2_with fail
   go_loopw [5,7] (RndIn w es k) (fun _ i _=>es.length - (intOf i).toNat)
   case atStart=>exact ⟨0,_,by omega,rfl,Lib.hid rfl,rfl,KF.out,KA.out,BB.out⟩
   case round =>
    clear KF KA BB
    obtain ⟨j,s,hj,rfl,hs,rfl,hF,hA,hB⟩:=hrel
    have KF:=Lib.hid hF
    have KA:=Lib.hid hA
    have BB:=Lib.hid hB
    clear hF hA hB
    by_cases hjl:j<es.length
    ·obtain ⟨b,off,rfl,hbw,hcell⟩:=HC.out (by omega)
     have d0:=(BB.out.cell (p:=⟨b,off + j * 3,none⟩) hbw).trans (hcell j hjl 0 (by omega))
     have d1:=(BB.out.cell (p:=⟨b,off + j * 3 + 1,none⟩) hbw).trans (hcell j hjl 1 (by omega))
     have d2:=(BB.out.cell (p:=⟨b,off + j * 3 + 2,none⟩) hbw).trans (hcell j hjl 2 (by omega))
     have hbr:=Nat.lt_of_lt_of_le hbw BB.out.size
     simp only [Ed.vals,List.getElem?_cons_zero,List.getElem?_cons_succ] at d0 d1 d2
     have hfx:=HF.out es[j] (List.getElem_mem hjl)
     have hfold:(es.take (j + 1)).foldl (stepE (k + 1)) { passN es k with pt:=0 }=stepE (k + 1) s es[j]:=by
      rw [List.take_succ_eq_append_getElem hjl,List.foldl_append,← hs.out]
      rfl
     have hbd:=far_bd (es:=es) (fun e he=>(HF.out e he).co.1) (n:=k + 1) (es.take j) { passN es k with pt:=0 } (k * es.length) (fun e he=>List.mem_of_mem_take he) (HB.out k)
     rw [← hs.out] at hbd
     have hm:k * es.length + (es.take j).length≤9600:=by
      have h1:(es.take j).length≤j:=by simp; omega
      have h2:k * es.length≤15 * es.length:=Nat.mul_le_mul_right _ (by omega)
      omega
     have HBD:Hid (∀ p,-1228800≤s.far p∧s.far p≤0):=Lib.hid fun p=>by have:=hbd p; omega
     have HFD:=Lib.hid hfold
     generalize es[j]=x at *
     obtain ⟨fr,tt,co⟩:=x
     dsimp only at d0 d1 d2
     obtain ⟨⟨f0,f9⟩,⟨t0,t9⟩,⟨c0,c9⟩⟩:=hfx
     dsimp only at f0 f9 t0 t9 c0 c9
     have KX:=Lib.hid (Blk.new wr #[.int .u8 fr,.int .u8 tt,.int .i8 co] 125)
     have KF2:=Lib.hid (KF.out.alloc (.cells #[.int .u8 fr,.int .u8 tt,.int .i8 co] 125))
     have KA2:=Lib.hid (KA.out.alloc (.cells #[.int .u8 fr,.int .u8 tt,.int .i8 co] 125))
     have BB2:=Lib.hid (BB.out.alloc BB.out.size (.cells #[.int .u8 fr,.int .u8 tt,.int .i8 co] 125))
     have hwx:w.heap.size + 1<wr.heap.size:=KA.out.lt
     clear hcell hfold hbd hm hs KF KA BB
     by_cases hok:okEd ⟨fr,tt,co⟩
     ·obtain ⟨⟨o1,o2⟩,⟨o3,o4⟩⟩:=hok
      dsimp only at o1 o2 o3 o4
      have q1:decide (fr<1)=false:=by simp; omega
      have q2:decide (16<fr)=false:=by simp; omega
      have q3:decide (tt<1)=false:=by simp; omega
      have q4:decide (16<tt)=false:=by simp; omega
      obtain ⟨df,hdf⟩:∃ df,s.far fr=df:=⟨_,rfl⟩
      obtain ⟨dt,hdt⟩:∃ dt,s.far tt=dt:=⟨_,rfl⟩
      have HDF:=Lib.hid hdf
      have HDT:=Lib.hid hdt
      have b1:=HBD.out fr
      have b2:=HBD.out tt
      rw [hdf] at b1
      rw [hdt] at b2
      obtain ⟨b3,b4⟩:=b1
      obtain ⟨b5,b6⟩:=b2
      clear hdf hdt
      go_wp2_with fail
      generalize wr.alloc (.cells #[.int .u8 fr,.int .u8 tt,.int .i8 co] 125)=W at *
      generalize wr.heap.size=X at *
      have KF:=Lib.hid KF2.out
      clear d0 d1 d2 KF2
      by_cases hless:df + co<dt
      ·have cless:decide (df + co<dt)=true:=by simpa using hless
       have NX:Hid ((⟨upI s.far tt (df + co),upI s.ahd tt fr,tt,fun p=>if p=tt then k + 1 else s.t p,upI s.w tt co⟩:BF)=(es.take (j + 1)).foldl (stepE (k + 1)) { passN es k with pt:=0 }):=Lib.hid (by
        rw [HFD.out]
        unfold stepE
        rw [if_pos ⟨⟨⟨o1,o2⟩,⟨o3,o4⟩⟩,by show s.far fr + co<s.far tt; rw [HDF.out,HDT.out]; exact hless⟩]
        dsimp only
        rw [HDF.out])
       clear hless
       refine region_still (by kernel_rfl) [(.pointer (some ⟨X,0,none⟩)),(.int .u8 fr),(.pointer (some ⟨w.heap.size,fr.toNat,none⟩)),(.int .i64 df),(.pointer (some ⟨X,2,none⟩)),(.int .i8 co),(.int .i64 co),(.int .i64 (df + co)),(.pointer (some ⟨X,1,none⟩)),(.int .u8 tt),(.pointer (some ⟨w.heap.size,tt.toNat,none⟩)),(.int .i64 dt),(.bool true)]
        (fun w'=>Below W.heap.size W w') (by kernel_rfl) (Below.refl _ _).drew ?_
       intro af haf
       simp only [List.toList_toArray,List.append_eq,List.cons_append,List.nil_append,puts,Act.put,List.getD_cons_zero,List.getD_cons_succ,List.setIfInBounds_toArray,List.set_cons_succ,List.set_cons_zero] at haf
       subst haf
       refine ⟨?_,?_⟩
       ·simp only [List.toList_toArray,List.append_eq,List.cons_append,List.nil_append,EachTo]
        refine ⟨?_,?_,?_,?_,?_,?_,?_,?_,?_,?_,?_,?_,?_,trivial⟩
        ·intro w' hS
         refine OpTo.plain ?_ ?_
         exact rfl
         have kx:=KX.out.below hS KX.out.lt
         have hl:=kx.lt
         have e0:=kx.cell 0
         have e1:=kx.cell 1
         have e2:=kx.cell 2
         simp at e0 e1 e2
         have HS:=Lib.hid hS
         clear hS
         go_wp2_with fail
         all_goals first | exact HS.out | exact ⟨rfl,HS.out⟩ | rfl | exact ⟨by omega,HS.out⟩
        ·intro w' hS
         refine OpTo.plain ?_ ?_
         exact rfl
         have kx:=KX.out.below hS KX.out.lt
         have hl:=kx.lt
         have e0:=kx.cell 0
         have e1:=kx.cell 1
         have e2:=kx.cell 2
         simp at e0 e1 e2
         have HS:=Lib.hid hS
         clear hS
         go_wp2_with fail
         all_goals first | exact HS.out | exact ⟨rfl,HS.out⟩ | rfl | exact ⟨by omega,HS.out⟩
        ·intro w' hS
         refine OpTo.plain ?_ ?_
         exact rfl
         have kf:=KF.out.below hS KF.out.lt
         have hfl:=kf.lt
         have HS:=Lib.hid hS
         clear hS
         go_wp2_with fail
         all_goals first | exact HS.out | exact ⟨rfl,HS.out⟩ | rfl | exact ⟨by omega,HS.out⟩
        ·intro w' hS
         refine OpTo.plain ?_ ?_
         exact rfl
         have kf:=KF.out.below hS KF.out.lt
         have hfl:=kf.lt
         have d:=kf.ltAt (p:=fr) (by omega) (by omega)
         rw [HDF.out] at d
         have HS:=Lib.hid hS
         clear hS
         go_wp2_with fail
         all_goals first | exact HS.out | exact ⟨rfl,HS.out⟩ | rfl | exact ⟨by omega,HS.out⟩
        ·intro w' hS
         refine OpTo.plain ?_ ?_
         exact rfl
         have kx:=KX.out.below hS KX.out.lt
         have hl:=kx.lt
         have e0:=kx.cell 0
         have e1:=kx.cell 1
         have e2:=kx.cell 2
         simp at e0 e1 e2
         have HS:=Lib.hid hS
         clear hS
         go_wp2_with fail
         all_goals first | exact HS.out | exact ⟨rfl,HS.out⟩ | rfl | exact ⟨by omega,HS.out⟩
        ·intro w' hS
         refine OpTo.plain ?_ ?_
         exact rfl
         have kx:=KX.out.below hS KX.out.lt
         have hl:=kx.lt
         have e0:=kx.cell 0
         have e1:=kx.cell 1
         have e2:=kx.cell 2
         simp at e0 e1 e2
         have HS:=Lib.hid hS
         clear hS
         go_wp2_with fail
         all_goals first | exact HS.out | exact ⟨rfl,HS.out⟩ | rfl | exact ⟨by omega,HS.out⟩
        ·intro w' hS
         refine OpTo.plain ?_ ?_
         exact rfl
         have HS:=Lib.hid hS
         clear hS
         go_wp2_with fail
         all_goals first | exact HS.out | exact ⟨rfl,HS.out⟩ | rfl | exact ⟨by omega,HS.out⟩
        ·intro w' hS
         refine OpTo.plain ?_ ?_
         exact rfl
         have HS:=Lib.hid hS
         clear hS
         go_wp2_with fail
         all_goals first | exact HS.out | exact ⟨rfl,HS.out⟩ | rfl | exact ⟨by omega,HS.out⟩
        ·intro w' hS
         refine OpTo.plain ?_ ?_
         exact rfl
         have kx:=KX.out.below hS KX.out.lt
         have hl:=kx.lt
         have e0:=kx.cell 0
         have e1:=kx.cell 1
         have e2:=kx.cell 2
         simp at e0 e1 e2
         have HS:=Lib.hid hS
         clear hS
         go_wp2_with fail
         all_goals first | exact HS.out | exact ⟨rfl,HS.out⟩ | rfl | exact ⟨by omega,HS.out⟩
        ·intro w' hS
         refine OpTo.plain ?_ ?_
         exact rfl
         have kx:=KX.out.below hS KX.out.lt
         have hl:=kx.lt
         have e0:=kx.cell 0
         have e1:=kx.cell 1
         have e2:=kx.cell 2
         simp at e0 e1 e2
         have HS:=Lib.hid hS
         clear hS
         go_wp2_with fail
         all_goals first | exact HS.out | exact ⟨rfl,HS.out⟩ | rfl | exact ⟨by omega,HS.out⟩
        ·intro w' hS
         refine OpTo.plain ?_ ?_
         exact rfl
         have kf:=KF.out.below hS KF.out.lt
         have hfl:=kf.lt
         have HS:=Lib.hid hS
         clear hS
         go_wp2_with fail
         all_goals first | exact HS.out | exact ⟨rfl,HS.out⟩ | rfl | exact ⟨by omega,HS.out⟩
        ·intro w' hS
         refine OpTo.plain ?_ ?_
         exact rfl
         have kf:=KF.out.below hS KF.out.lt
         have hfl:=kf.lt
         have d:=kf.ltAt (p:=tt) (by omega) (by omega)
         rw [HDT.out] at d
         have HS:=Lib.hid hS
         clear hS
         go_wp2_with fail
         all_goals first | exact HS.out | exact ⟨rfl,HS.out⟩ | rfl | exact ⟨by omega,HS.out⟩
        ·intro w' hS
         refine OpTo.plain ?_ ?_
         exact rfl
         have HS:=Lib.hid hS
         clear hS
         go_wp2_with fail
         all_goals first | exact HS.out | exact ⟨rfl,HS.out⟩ | rfl | exact ⟨by omega,HS.out⟩
       intro w2 hS
       have KFb:=Lib.hid (KF.out.below hS KF.out.lt)
       have KAb:=Lib.hid (KA2.out.below hS KA2.out.lt)
       have KXb:=Lib.hid (KX.out.below hS KX.out.lt)
       have Bb:=Lib.hid (BB2.out.trans (hS.mono BB2.out.size))
       have hXw:=KXb.out.lt
       clear hS KF KA2 KX BB2
       go_wp2_with fail
       refine region_end (by kernel_rfl) 11 16 [(.pointer (some ⟨X,1,none⟩)),(.int .u8 tt),(.pointer (some ⟨X,0,none⟩)),(.int .u8 fr),(.pointer (some ⟨w.heap.size,fr.toNat,none⟩)),(.int .i64 df),(.pointer (some ⟨X,2,none⟩)),(.int .i8 co),(.int .i64 co),(.int .i64 (df + co)),(.pointer (some ⟨w.heap.size,tt.toNat,none⟩))]
        (fun w'=>Below w2.heap.size w2 w') (by kernel_rfl) rfl (by kernel_rfl) (Below.refl _ _).drew ?_
       intro af haf
       simp only [List.toList_toArray,List.append_eq,List.cons_append,List.nil_append,puts,Act.put,List.getD_cons_zero,List.getD_cons_succ,List.setIfInBounds_toArray,List.set_cons_succ,List.set_cons_zero] at haf
       subst haf
       refine ⟨?_,?_⟩
       ·simp only [List.toList_toArray,List.take_succ_cons,List.take_zero,EachTo]
        refine ⟨?_,?_,?_,?_,?_,?_,?_,?_,?_,?_,?_,trivial⟩
        ·intro w' hS
         refine OpTo.plain ?_ ?_
         exact rfl
         have kx:=KXb.out.below hS KXb.out.lt
         have hl:=kx.lt
         have e0:=kx.cell 0
         have e1:=kx.cell 1
         have e2:=kx.cell 2
         simp at e0 e1 e2
         have HS:=Lib.hid hS
         clear hS
         go_wp2_with fail
         all_goals first | exact HS.out | exact ⟨rfl,HS.out⟩ | rfl | exact ⟨by omega,HS.out⟩
        ·intro w' hS
         refine OpTo.plain ?_ ?_
         exact rfl
         have kx:=KXb.out.below hS KXb.out.lt
         have hl:=kx.lt
         have e0:=kx.cell 0
         have e1:=kx.cell 1
         have e2:=kx.cell 2
         simp at e0 e1 e2
         have HS:=Lib.hid hS
         clear hS
         go_wp2_with fail
         all_goals first | exact HS.out | exact ⟨rfl,HS.out⟩ | rfl | exact ⟨by omega,HS.out⟩
        ·intro w' hS
         refine OpTo.plain ?_ ?_
         exact rfl
         have kx:=KXb.out.below hS KXb.out.lt
         have hl:=kx.lt
         have e0:=kx.cell 0
         have e1:=kx.cell 1
         have e2:=kx.cell 2
         simp at e0 e1 e2
         have HS:=Lib.hid hS
         clear hS
         go_wp2_with fail
         all_goals first | exact HS.out | exact ⟨rfl,HS.out⟩ | rfl | exact ⟨by omega,HS.out⟩
        ·intro w' hS
         refine OpTo.plain ?_ ?_
         exact rfl
         have kx:=KXb.out.below hS KXb.out.lt
         have hl:=kx.lt
         have e0:=kx.cell 0
         have e1:=kx.cell 1
         have e2:=kx.cell 2
         simp at e0 e1 e2
         have HS:=Lib.hid hS
         clear hS
         go_wp2_with fail
         all_goals first | exact HS.out | exact ⟨rfl,HS.out⟩ | rfl | exact ⟨by omega,HS.out⟩
        ·intro w' hS
         refine OpTo.plain ?_ ?_
         exact rfl
         have kf:=KFb.out.below hS KFb.out.lt
         have hfl:=kf.lt
         have HS:=Lib.hid hS
         clear hS
         go_wp2_with fail
         all_goals first | exact HS.out | exact ⟨rfl,HS.out⟩ | rfl | exact ⟨by omega,HS.out⟩
        ·intro w' hS
         refine OpTo.plain ?_ ?_
         exact rfl
         have kf:=KFb.out.below hS KFb.out.lt
         have hfl:=kf.lt
         have d:=kf.ltAt (p:=fr) (by omega) (by omega)
         rw [HDF.out] at d
         have HS:=Lib.hid hS
         clear hS
         go_wp2_with fail
         all_goals first | exact HS.out | exact ⟨rfl,HS.out⟩ | rfl | exact ⟨by omega,HS.out⟩
        ·intro w' hS
         refine OpTo.plain ?_ ?_
         exact rfl
         have kx:=KXb.out.below hS KXb.out.lt
         have hl:=kx.lt
         have e0:=kx.cell 0
         have e1:=kx.cell 1
         have e2:=kx.cell 2
         simp at e0 e1 e2
         have HS:=Lib.hid hS
         clear hS
         go_wp2_with fail
         all_goals first | exact HS.out | exact ⟨rfl,HS.out⟩ | rfl | exact ⟨by omega,HS.out⟩
        ·intro w' hS
         refine OpTo.plain ?_ ?_
         exact rfl
         have kx:=KXb.out.below hS KXb.out.lt
         have hl:=kx.lt
         have e0:=kx.cell 0
         have e1:=kx.cell 1
         have e2:=kx.cell 2
         simp at e0 e1 e2
         have HS:=Lib.hid hS
         clear hS
         go_wp2_with fail
         all_goals first | exact HS.out | exact ⟨rfl,HS.out⟩ | rfl | exact ⟨by omega,HS.out⟩
        ·intro w' hS
         refine OpTo.plain ?_ ?_
         exact rfl
         have HS:=Lib.hid hS
         clear hS
         go_wp2_with fail
         all_goals first | exact HS.out | exact ⟨rfl,HS.out⟩ | rfl | exact ⟨by omega,HS.out⟩
        ·intro w' hS
         refine OpTo.plain ?_ ?_
         exact rfl
         have HS:=Lib.hid hS
         clear hS
         go_wp2_with fail
         all_goals first | exact HS.out | exact ⟨rfl,HS.out⟩ | rfl | exact ⟨by omega,HS.out⟩
        ·intro w' hS
         refine OpTo.plain ?_ ?_
         exact rfl
         have kf:=KFb.out.below hS KFb.out.lt
         have hfl:=kf.lt
         have HS:=Lib.hid hS
         clear hS
         go_wp2_with fail
         all_goals first | exact HS.out | exact ⟨rfl,HS.out⟩ | rfl | exact ⟨by omega,HS.out⟩
       simp only [List.getD_cons_succ,List.getD_cons_zero,List.toList_toArray]
       intro w' hS
       refine OpTo.plain ?_ ?_
       exact rfl
       have kf:=Lib.hid ((KFb.out.below hS KFb.out.lt).ltSet (p:=tt) (by omega) (by omega) (df + co))
       have dm:=(KFb.out.below hS KFb.out.lt).ltAt (p:=tt) (by omega) (by omega)
       have fr2:=(KFb.out.below hS KFb.out.lt).frozen tt.toNat
       have ka:=Lib.hid ((KAb.out.below hS KAb.out.lt).setOther (a:=⟨w.heap.size,tt.toNat,none⟩) (by simp) (.int .i64 (df + co)))
       have kx:=Lib.hid ((KXb.out.below hS KXb.out.lt).setOther (a:=⟨w.heap.size,tt.toNat,none⟩) (by simp; omega) (.int .i64 (df + co)))
       have kb:=Lib.hid ((Bb.out.trans (hS.mono Bb.out.size)).setCell (p:=⟨w.heap.size,tt.toNat,none⟩) (by simp) (.int .i64 (df + co)))
       clear hS
       go_upto_region 15 with fail
       generalize w'.setCell ⟨w.heap.size,tt.toNat,none⟩ (.int .i64 (df + co))=w3 at *
       clear dm fr2 KFb KAb KXb Bb
       have hl3:=kx.out.lt
       have e0:=kx.out.cell 0; have e1:=kx.out.cell 1
       simp at e0 e1
       have da:=ka.out.ahAt (p:=tt) (by omega) (by omega)
       have fa:=ka.out.frozen tt.toNat
       have ka2:=Lib.hid (ka.out.ahSet (p:=tt) (by omega) (by omega) fr)
       have kf2:=Lib.hid (kf.out.setOther (a:=⟨w.heap.size + 1,tt.toNat,none⟩) (by simp) (.int .u8 fr))
       have kb2:=Lib.hid (kb.out.setCell (p:=⟨w.heap.size + 1,tt.toNat,none⟩) (by simp) (.int .u8 fr))
       have kx2:=kx.out.setOther (a:=⟨w.heap.size + 1,tt.toNat,none⟩) (by simp; omega) (.int .u8 fr)
       have g1:=kx2.cell 1
       have g1l:=kx2.lt
       simp at g1
       go_wp2_with fail
       go_roundw
       case rel=>exact ⟨j + 1,_,by omega,by go_num,NX,rfl,kf2.out,ka2.out,kb2.out⟩
       case measure=>simp [intOf]; omega
      ·have cless:decide (df + co<dt)=false:=by simpa using hless
       have NX:Hid (s=(es.take (j + 1)).foldl (stepE (k + 1)) { passN es k with pt:=0 }):=Lib.hid (by
        rw [HFD.out]
        unfold stepE
        rw [if_neg (fun h=>hless (by have:=h.2; dsimp only at this; rw [HDF.out,HDT.out] at this; exact this))])
       clear hless
       refine region_still (by kernel_rfl) [(.pointer (some ⟨X,0,none⟩)),(.int .u8 fr),(.pointer (some ⟨w.heap.size,fr.toNat,none⟩)),(.int .i64 df),(.pointer (some ⟨X,2,none⟩)),(.int .i8 co),(.int .i64 co),(.int .i64 (df + co)),(.pointer (some ⟨X,1,none⟩)),(.int .u8 tt),(.pointer (some ⟨w.heap.size,tt.toNat,none⟩)),(.int .i64 dt),(.bool false)]
        (fun w'=>Below W.heap.size W w') (by kernel_rfl) (Below.refl _ _).drew ?_
       intro af haf
       simp only [List.toList_toArray,List.append_eq,List.cons_append,List.nil_append,puts,Act.put,List.getD_cons_zero,List.getD_cons_succ,List.setIfInBounds_toArray,List.set_cons_succ,List.set_cons_zero] at haf
       subst haf
       refine ⟨?_,?_⟩
       ·simp only [List.toList_toArray,List.append_eq,List.cons_append,List.nil_append,EachTo]
        refine ⟨?_,?_,?_,?_,?_,?_,?_,?_,?_,?_,?_,?_,?_,trivial⟩
        ·intro w' hS
         refine OpTo.plain ?_ ?_
         exact rfl
         have kx:=KX.out.below hS KX.out.lt
         have hl:=kx.lt
         have e0:=kx.cell 0
         have e1:=kx.cell 1
         have e2:=kx.cell 2
         simp at e0 e1 e2
         have HS:=Lib.hid hS
         clear hS
         go_wp2_with fail
         all_goals first | exact HS.out | exact ⟨rfl,HS.out⟩ | rfl | exact ⟨by omega,HS.out⟩
        ·intro w' hS
         refine OpTo.plain ?_ ?_
         exact rfl
         have kx:=KX.out.below hS KX.out.lt
         have hl:=kx.lt
         have e0:=kx.cell 0
         have e1:=kx.cell 1
         have e2:=kx.cell 2
         simp at e0 e1 e2
         have HS:=Lib.hid hS
         clear hS
         go_wp2_with fail
         all_goals first | exact HS.out | exact ⟨rfl,HS.out⟩ | rfl | exact ⟨by omega,HS.out⟩
        ·intro w' hS
         refine OpTo.plain ?_ ?_
         exact rfl
         have kf:=KF.out.below hS KF.out.lt
         have hfl:=kf.lt
         have HS:=Lib.hid hS
         clear hS
         go_wp2_with fail
         all_goals first | exact HS.out | exact ⟨rfl,HS.out⟩ | rfl | exact ⟨by omega,HS.out⟩
        ·intro w' hS
         refine OpTo.plain ?_ ?_
         exact rfl
         have kf:=KF.out.below hS KF.out.lt
         have hfl:=kf.lt
         have d:=kf.ltAt (p:=fr) (by omega) (by omega)
         rw [HDF.out] at d
         have HS:=Lib.hid hS
         clear hS
         go_wp2_with fail
         all_goals first | exact HS.out | exact ⟨rfl,HS.out⟩ | rfl | exact ⟨by omega,HS.out⟩
        ·intro w' hS
         refine OpTo.plain ?_ ?_
         exact rfl
         have kx:=KX.out.below hS KX.out.lt
         have hl:=kx.lt
         have e0:=kx.cell 0
         have e1:=kx.cell 1
         have e2:=kx.cell 2
         simp at e0 e1 e2
         have HS:=Lib.hid hS
         clear hS
         go_wp2_with fail
         all_goals first | exact HS.out | exact ⟨rfl,HS.out⟩ | rfl | exact ⟨by omega,HS.out⟩
        ·intro w' hS
         refine OpTo.plain ?_ ?_
         exact rfl
         have kx:=KX.out.below hS KX.out.lt
         have hl:=kx.lt
         have e0:=kx.cell 0
         have e1:=kx.cell 1
         have e2:=kx.cell 2
         simp at e0 e1 e2
         have HS:=Lib.hid hS
         clear hS
         go_wp2_with fail
         all_goals first | exact HS.out | exact ⟨rfl,HS.out⟩ | rfl | exact ⟨by omega,HS.out⟩
        ·intro w' hS
         refine OpTo.plain ?_ ?_
         exact rfl
         have HS:=Lib.hid hS
         clear hS
         go_wp2_with fail
         all_goals first | exact HS.out | exact ⟨rfl,HS.out⟩ | rfl | exact ⟨by omega,HS.out⟩
        ·intro w' hS
         refine OpTo.plain ?_ ?_
         exact rfl
         have HS:=Lib.hid hS
         clear hS
         go_wp2_with fail
         all_goals first | exact HS.out | exact ⟨rfl,HS.out⟩ | rfl | exact ⟨by omega,HS.out⟩
        ·intro w' hS
         refine OpTo.plain ?_ ?_
         exact rfl
         have kx:=KX.out.below hS KX.out.lt
         have hl:=kx.lt
         have e0:=kx.cell 0
         have e1:=kx.cell 1
         have e2:=kx.cell 2
         simp at e0 e1 e2
         have HS:=Lib.hid hS
         clear hS
         go_wp2_with fail
         all_goals first | exact HS.out | exact ⟨rfl,HS.out⟩ | rfl | exact ⟨by omega,HS.out⟩
        ·intro w' hS
         refine OpTo.plain ?_ ?_
         exact rfl
         have kx:=KX.out.below hS KX.out.lt
         have hl:=kx.lt
         have e0:=kx.cell 0
         have e1:=kx.cell 1
         have e2:=kx.cell 2
         simp at e0 e1 e2
         have HS:=Lib.hid hS
         clear hS
         go_wp2_with fail
         all_goals first | exact HS.out | exact ⟨rfl,HS.out⟩ | rfl | exact ⟨by omega,HS.out⟩
        ·intro w' hS
         refine OpTo.plain ?_ ?_
         exact rfl
         have kf:=KF.out.below hS KF.out.lt
         have hfl:=kf.lt
         have HS:=Lib.hid hS
         clear hS
         go_wp2_with fail
         all_goals first | exact HS.out | exact ⟨rfl,HS.out⟩ | rfl | exact ⟨by omega,HS.out⟩
        ·intro w' hS
         refine OpTo.plain ?_ ?_
         exact rfl
         have kf:=KF.out.below hS KF.out.lt
         have hfl:=kf.lt
         have d:=kf.ltAt (p:=tt) (by omega) (by omega)
         rw [HDT.out] at d
         have HS:=Lib.hid hS
         clear hS
         go_wp2_with fail
         all_goals first | exact HS.out | exact ⟨rfl,HS.out⟩ | rfl | exact ⟨by omega,HS.out⟩
        ·intro w' hS
         refine OpTo.plain ?_ ?_
         exact rfl
         have HS:=Lib.hid hS
         clear hS
         go_wp2_with fail
         all_goals first | exact HS.out | exact ⟨rfl,HS.out⟩ | rfl | exact ⟨by omega,HS.out⟩
       intro w2 hS
       have KF3:=Lib.hid (KF.out.below hS KF.out.lt)
       have KA3:=Lib.hid (KA2.out.below hS KA2.out.lt)
       have B3:=Lib.hid (BB2.out.trans (hS.mono BB2.out.size))
       clear hS
       go_wp2_with fail
       go_roundw
       case rel=>exact ⟨j + 1,s,by omega,by go_num,NX,rfl,KF3.out,KA3.out,B3.out⟩
       case measure=>simp [intOf]; omega
     ·have NX:Hid (s=(es.take (j + 1)).foldl (stepE (k + 1)) { passN es k with pt:=0 }):=Lib.hid (by
       rw [HFD.out]
       unfold stepE
       rw [if_neg (fun h=>hok h.1)])
      unfold okEd inP at hok
      dsimp only at hok
      have hs:fr<1∨(1≤fr∧16<fr)∨(1≤fr∧fr≤16∧tt<1)∨(1≤fr∧fr≤16∧1≤tt∧16<tt):=by omega
      rcases hs with h1 | ⟨h1,h2⟩ | ⟨h1,h2,h3⟩ | ⟨h1,h2,h3,h4⟩
      all_goals
       clear hok
       go_wp2_with fail
       go_roundw
       case rel=>exact ⟨j + 1,s,by omega,by go_num,NX,rfl,KF2.out,KA2.out,BB2.out⟩
       case measure=>simp [intOf]; omega
    ·have hjj:es.take j=es:=List.take_of_length_le (by omega)
     rw [hjj] at hs
     have HP:s=passN es (k + 1):=hs.out
     clear hs
     subst HP
     by_cases h0:(passN es (k + 1)).pt=0
     ·have E:Hid (roundW es=[]):=Lib.hid (roundW_stop hk16 h0)
      have q0:((passN es (k + 1)).pt==0)=true:=by simpa using h0
      clear h0
      go_wp2_with fail
      refine bodyPost_ret (v:=.slice none 0 0) (by simp [results,Tryz.results77,go_sem]) rfl ?_
      exact ⟨_,rfl,by rw [E.out]; exact World.ownsRow_nil _ _ _ _,BB.out⟩
     ·have q0:((passN es (k + 1)).pt==0)=false:=by simpa using h0
      have HA2:Hid (∀ j,j<k + 1→(passN es (j + 1)).pt≠0):=Lib.hid fun j hj=>by
       by_cases h1:j<k
       ·exact HALL.out j h1
       ·have:j=k:=by omega
        subst this
        exact h0
      clear h0
      go_wp2_with fail
      go_roundw
      case rel=>exact ⟨k + 1,_,by omega,by go_num,rfl,fun _=>rfl,HA2.out,KF.out,KA.out,BB.out⟩
      case measure=>simp [intOf]; omega
  ·have hk16':k=16:=by omega
   subst hk16'
   rw [show ((16:Nat):Int)=16 from rfl]
   have hp:=HPT.out (by omega)
   subst hp
   have hne:(passN es 16).pt≠0:=HALL.out 15 (by omega)
   obtain ⟨r1,r2⟩:=round_found hne
   have EW:Hid (roundW es=roundL (passN es 16).ahd (itr (passN es 16).ahd 16 (passN es 16).pt)):=Lib.hid (by
    unfold roundW
    rw [if_pos]
    rw [List.all_eq_true]
    intro n hn
    have:=HALL.out n (by simpa using hn)
    simpa using this)
   have R1:=Lib.hid r1
   have R2:=Lib.hid (cycK_spec r2)
   obtain ⟨K,l,EK,EL,hinA,IR,EB⟩:=roundW_some (es:=es) (by rw [EW.out]; unfold roundL backL; simp)
   have HK:=Lib.hid EK
   have HLl:=Lib.hid EL
   have HIN:=Lib.hid hinA
   have HIR:=Lib.hid IR
   have HEB:=Lib.hid EB
   clear EK EL hinA IR EB EW
   clear r1 r2 hne HPT HALL KF HB
   generalize passN es 16=s at *
   go_wp2_with fail
   go_loopw [5,9] (HopAt w s) (fun _ i _=>16 - (intOf i).toNat)
   case atStart=>exact ⟨0,by omega,rfl,rfl,KA.out,BB.out⟩
   case round =>
    clear KA BB
    obtain ⟨i,hi,rfl,rfl,hA,hB⟩:=hrel
    have KA:=Lib.hid hA
    have BB:=Lib.hid hB
    have hal:=hA.lt
    clear hA hB
    have hin:=R1.out i hi
    obtain ⟨n1,n2⟩:=hin
    by_cases hi16:i<16
    ·have hii:(i:Int)<16:=by omega
     have da:=KA.out.ahAt (p:=itr s.ahd i s.pt) (by omega) (by omega)
     have hnx:=itr_succ s.ahd i s.pt
     rw [← hnx] at da
     clear hnx
     generalize hx:itr s.ahd i s.pt=x at *
     clear hx
     go_wp2_with fail
     go_roundw
     case rel=>exact ⟨i + 1,by omega,by go_num,rfl,KA.out,BB.out⟩
     case measure=>simp [intOf]; omega
    ·have hi2:i=16:=by omega
     subst hi2
     rw [show ((16:Nat):Int)=16 from rfl]
     have hk1:=HIR.out.k1
     have hk16:=HIR.out.k16
     have C3:=Lib.hid R2.out.2.2
     rw [← HK.out] at C3
     clear R1 R2
     generalize ha:itr s.ahd 16 s.pt=a at *
     have da:=KA.out.ahAt (p:=a) (by omega) (by omega)
     go_wp2_with fail
     go_loopw [10,11] (LeastAt w s.ahd a K) (fun _ p _=>K - posC s.ahd a K (intOf p))
     case atStart=>exact ⟨1,by omega,hk1,rfl,rfl,KA.out,BB.out⟩
     case round =>
      clear da KA BB
      obtain ⟨k,h1,h2,rfl,rfl,hA,hB⟩:=hrel
      have KA:=Lib.hid hA
      have BB:=Lib.hid hB
      have hal:=hA.lt
      clear hA hB
      have HP:=Lib.hid (posC_eq C3.out.1 C3.out.2 h1 h2)
      by_cases hkK:k<K
      ·have hne:=C3.out.2 k h1 hkK
       have HP2:=Lib.hid (posC_eq C3.out.1 C3.out.2 (k:=k + 1) (by omega) (by omega))
       have hin:=HIN.out k
       obtain ⟨n1,n2⟩:=hin
       have q1:(itr s.ahd k a==a)=false:=by simpa using hne
       have q2:(itr s.ahd k a != a)=true:=by simp [bne,q1]
       have dp:=KA.out.ahAt (p:=itr s.ahd k a) (by omega) (by omega)
       have hnx:=itr_succ s.ahd k a
       rw [← hnx] at dp
       have LE0:leastC s.ahd a (k + 1 - 1)=min (leastC s.ahd a (k - 1)) (itr s.ahd k a):=by
        rw [show k + 1 - 1=(k - 1) + 1 by omega]
        show min (leastC s.ahd a (k - 1)) (itr s.ahd (k - 1 + 1) a)=_
        rw [show k - 1 + 1=k by omega]
       have LE:Hid ((if itr s.ahd k a<leastC s.ahd a (k - 1) then itr s.ahd k a else leastC s.ahd a (k - 1))=leastC s.ahd a (k + 1 - 1)):=Lib.hid (by rw [LE0]; split <;> omega)
       clear LE0
       clear hnx hne
       generalize hx:itr s.ahd k a=x at *
       go_wp2_with fail
       go_roundw
       case rel=>exact ⟨k + 1,by omega,by omega,rfl,by rw [LE.out],KA.out,BB.out⟩
       case measure=>simp only [intOf]; have:=HP.out; have:=HP2.out; omega
      ·have hkK2:k=K:=by omega
       subst hkK2
       have hpa:=C3.out.1
       have q1:(itr s.ahd k a==a)=true:=by simpa using hpa
       have q2:(itr s.ahd k a != a)=false:=by simp [bne,q1]
       have hin:=HIR.out.ends 0
       have hin0:inP l:=hin
       obtain ⟨n1,n2⟩:=hin0
       have hpa2:=hpa
       rw [← HLl.out]
       have D3:=Lib.hid (And.intro HIR.out.back HIR.out.apart)
       have dl:=KA.out.ahAt (p:=l) (by omega) (by omega)
       clear hin hpa hpa2 HLl HP C3
       have hwz:=BB.out.size
       have O0:=Lib.hid (show (wr.alloc (.cells #[.int .u8 l] 30)).ownsRow w.heap.size 30 1 (.slice (some ⟨wr.heap.size,0,none⟩) 1 1) (backL s.ahd l (1 - 1)).length ((backL s.ahd l (1 - 1)).map (.int .u8)) from
        ⟨rfl,.inr ⟨wr.heap.size,1,#[.int .u8 l],rfl,hwz,Blk.new _ _ _,by simp [backL],by simp [maxLen],rfl,rfl⟩⟩)
       have KA0:=Lib.hid (KA.out.alloc (.cells #[.int .u8 l] 30))
       have BB0:=Lib.hid (BB.out.alloc BB.out.size (.cells #[.int .u8 l] 30))
       go_wp2_with fail
       go_loopw [12,13] (OutAt6 w s.ahd l k) (fun _ p _=>k - posC s.ahd l k (intOf p))
       case atStart=>exact ⟨1,by omega,by omega,rfl,O0.out,KA0.out,BB0.out⟩
       case round =>
        clear O0 KA0 BB0 dl KA BB hwz
        obtain ⟨i,i1,i2,rfl,hown,hA,hB⟩:=hrel
        have KA:=Lib.hid hA
        have BB:=Lib.hid hB
        have OO:=Lib.hid hown
        have hal:=hA.lt
        clear hA hB hown
        have HP:=Lib.hid (posC_eq D3.out.1 D3.out.2 i1 i2)
        by_cases hik:i<k
        ·have hne:=D3.out.2 i i1 hik
         have HP2:=Lib.hid (posC_eq D3.out.1 D3.out.2 (k:=i + 1) (by omega) (by omega))
         have hin:=HIR.out.ends i
         obtain ⟨m1,m2⟩:=hin
         have q3:(itr s.ahd i l==l)=false:=by simpa using hne
         have q4:(itr s.ahd i l != l)=true:=by simp [bne,q3]
         have dp:=KA.out.ahAt (p:=itr s.ahd i l) (by omega) (by omega)
         rw [← itr_succ s.ahd i l] at dp
         have NB:Hid (backL s.ahd l (i + 1 - 1)=l::itr s.ahd i l::(backL s.ahd l (i - 1)).tail):=Lib.hid (by
          rw [show i + 1 - 1=(i - 1) + 1 by omega,backL_next,show i - 1 + 1=i by omega]
          rfl)
         have hbl:(backL s.ahd l (i - 1)).length=i:=by rw [backL_len]; omega
         rw [hbl] at OO
         have HBL:=Lib.hid hbl
         clear hne hbl
         obtain ⟨oo,cp,hv,hc1,hc2,_,hc4⟩:=owns_open OO.out
         subst hv
         obtain ⟨bo,rfl,_,hbo,hcell,_⟩:=hc4 (by omega)
         have TC:=Lib.hid (fun j y (hy:(backL s.ahd l (i - 1)).tail[j]? = some y)=>show wr.cell? ⟨bo,1 + j,none⟩=some (.int .u8 y) by
          rw [List.getElem?_tail] at hy
          have hjl:=(List.getElem?_eq_some_iff.1 hy).1
          have hbl:=HBL.out
          rw [hcell (1 + j) (by omega),List.getElem?_map,Nat.add_comm,hy]
          rfl)
         have hrt:=run_tail (P:=Tryz.prog) (wr.alloc (.cells #[.int .u8 l,.int .u8 (itr s.ahd i l)] 30)) 67 30 Tryz.underlying67 (Tryz.sizeOf30 _) bo i cp (by omega) hc1
         have TC2:=Lib.hid (fun j y (hy:(backL s.ahd l (i - 1)).tail[j]? = some y)=>show (wr.alloc (.cells #[.int .u8 l,.int .u8 (itr s.ahd i l)] 30)).cell? ⟨bo,1 + j,none⟩=some (.int .u8 y) from by
          rw [World.cell?_alloc_lt _ _ _ hbo]; exact TC.out j y hy)
         have BA:=Lib.hid (BB.out.alloc BB.out.size (.cells #[.int .u8 l,.int .u8 (itr s.ahd i l)] 30))
         have KAA:=Lib.hid (KA.out.alloc (.cells #[.int .u8 l,.int .u8 (itr s.ahd i l)] 30))
         have hzw:=BB.out.size
         have htl:(backL s.ahd l (i - 1)).tail.length=i - 1:=by rw [List.length_tail,HBL.out]
         have TL:=Lib.hid htl
         unfold maxLen at hc2
         clear hc4 hcell htl
         go_wp2_with (at_builtin; refine wpList_append_tail _ rfl (.tmp 112) (.tmp 114) rfl w.heap.size l (itr s.ahd i l) wr.heap.size rfl (Blk.new _ _ _) hzw bo cp (backL s.ahd l (i - 1)).tail _ TL.out.symm rfl TC2.out (by have:=TL.out; omega) (by have:=TL.out; omega) ?_)
         intro v5 w5 hown5 hgr5
         have KK:=(Keep.refl (·=wr.heap.size) (wr.alloc (.cells #[.int .u8 l,.int .u8 (itr s.ahd i l)] 30))).grown hgr5 (fun k hk=>.inl (by cases hk; rfl))
         have BB5:=Lib.hid (BA.out.trans (KK.below (B:=w.heap.size) BA.out.size (fun k hk e=>by omega)))
         have KA5:=Lib.hid (KAA.out.keep KK (by omega))
         have O5:=Lib.hid (show w5.ownsRow w.heap.size 30 1 v5 (backL s.ahd l (i + 1 - 1)).length ((backL s.ahd l (i + 1 - 1)).map (.int .u8)) by rw [NB.out]; simpa using hown5)
         have dp5:=KA5.out.ahAt (p:=itr s.ahd i l) (by omega) (by omega)
         rw [← itr_succ s.ahd i l] at dp5
         have hl5:=KA5.out.lt
         clear hown5 hgr5 KK dp hrt
         generalize hx:itr s.ahd i l=x at *
         go_wp2_with fail
         go_roundw
         case rel=>exact ⟨i + 1,by omega,by omega,rfl,O5.out,KA5.out,BB5.out⟩
         case measure=>simp only [intOf]; rw [hx,HP.out,HP2.out]; omega
        ·have hik2:i=k:=by omega
         subst hik2
         have q3:(itr s.ahd i l==l)=true:=by simpa using D3.out.1
         have q4:(itr s.ahd i l != l)=false:=by simp [bne,q3]
         have EE:Hid (backL s.ahd l (i - 1)=roundW es):=Lib.hid HEB.out.symm
         obtain ⟨oo,cp,hv,_⟩:=owns_open OO.out
         subst hv
         clear HP D3
         go_wp2_with fail
         refine bodyPost_ret (v:=.slice oo (backL s.ahd l (i - 1)).length cp) (by simp [results,Tryz.results77,go_sem]) rfl ?_
         exact ⟨_,rfl,by rw [← EE.out]; exact OO.out,BB.out⟩
end Go.Proofs.YtlbjjkbppbmihaaGreat
