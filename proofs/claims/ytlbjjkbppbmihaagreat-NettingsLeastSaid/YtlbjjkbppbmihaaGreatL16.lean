/-
  Pieces of one proof, without what is not wanted: Sound, Made, NetGo.
-/
import Derived.Test.YtlbjjkbppbmihaaGreatL04
import Derived.Test.YtlbjjkbppbmihaaGreatL05
import Derived.Test.YtlbjjkbppbmihaaGreatL09
import Derived.Test.YtlbjjkbppbmihaaGreatL11
import Derived.Test.YtlbjjkbppbmihaaGreatL12
import Derived.Test.YtlbjjkbppbmihaaGreatL14
import Derived.Test.YtlbjjkbppbmihaaGreatL15
set_option linter.unusedSimpArgs false
set_option linter.unusedVariables false
namespace Go.Proofs.YtlbjjkbppbmihaaGreat
open Go.RowKit
theorem posL_bd9 {ps:List Int} {ls:List Ln} (h:LInv ps ls) (p c:Int):-70368744177664≤posL ls p c∧posL ls p c≤70368744177664 :=
 sum_part (fun x hx=>posOf_bd (h.inv.good x hx) p c) (fun x hx=>hx) h.len
set_option maxHeartbeats 4000000 in
theorem moved_any {w:World} {G M G2 M2:Nat} {ps ps2:List Int} {ls ls2:List Ln} (hL:LedM w G M ps ls) (hI:LInv ps ls) (hC:LedM w G2 M2 ps2 ls2) (hJ:LInv ps2 ls2) (p c:Int) {n:Int} (n1:-1099511627776≤n) (n2:n≤1099511627776) :
  Calls Tryz.prog 26 #[.pointer (some ⟨G,0,none⟩),.pointer (some ⟨G2,0,none⟩),.int .u8 p,.int .u8 c,.int .i64 n] w fun e w'=>e=.returned (.bool (decide (posL ls p c=posL ls2 p c + n)))∧Below w.heap.size w w':=by
 have C1:=Lib.hid (ppos_any hL hI p c)
 have C2:=Lib.hid (fun w' (k:Below w.heap.size w w')=>ppos_any (hC.below k) hJ p c)
 have h1:=posL_bd9 hI p c
 have h2:=posL_bd9 hJ p c
 generalize posL ls p c=x at *
 generalize posL ls2 p c=y at *
 obtain ⟨x0,x1⟩:=h1
 obtain ⟨y0,y1⟩:=h2
 obtain ⟨r,hr⟩:∃ r,decide (x=y + n)=r:=⟨_,rfl⟩
 have hr2:(x==y + n)=r:=by rw [← hr]; by_cases h:x=y + n <;> simp [h]
 rw [hr]
 clear hL hI hC hJ hr
 go_enter Tryz.func26,Tryz.ntmps26
 go_wp2_with fail
 refine C1.out.mono ?_
 rintro e w1 ⟨rfl,b1⟩
 have B1:=Lib.hid b1
 clear b1
 go_wp2_with fail
 refine (C2.out w1 B1.out).mono ?_
 rintro e w2 ⟨rfl,b2⟩
 have B2:=Lib.hid (B1.out.trans (b2.mono B1.out.size))
 clear b2
 go_wp2_with fail
 go_ret
 exact ⟨rfl,B2.out⟩
def halfL (ls:List Ln) (k:Nat):List Ln:=(ls.take k).map (fun x=>x.owe 0)++ls.drop k
theorem halfL_len (ls:List Ln) (k:Nat):(halfL ls k).length=ls.length:=by unfold halfL; simp; omega
theorem halfL_zero (ls:List Ln):halfL ls 0=ls:=by unfold halfL; simp
theorem halfL_get {ls:List Ln} {k:Nat} (h:k<ls.length):(halfL ls k)[k]'(by rw [halfL_len]; exact h)=ls[k]:=by
 unfold halfL
 rw [List.getElem_append_right (by simp; omega)]
 simp [Nat.min_eq_left (Nat.le_of_lt h)]
theorem halfL_next {ls:List Ln} {k:Nat} (h:k<ls.length):halfL ls (k + 1)=(halfL ls k).set k (ls[k].owe 0):=by
 unfold halfL
 rw [List.take_succ_eq_append_getElem h,List.map_append,List.append_assoc,List.set_append_right _ _ (by simp; omega)]
 congr 1
 rw [show ls.drop k=ls[k]::ls.drop (k + 1) from List.drop_eq_getElem_cons h]
 simp only [List.length_map,List.length_take,Nat.min_eq_left (Nat.le_of_lt h),Nat.sub_self,List.set_cons_zero,List.map_cons,List.map_nil,List.singleton_append]
theorem half_cell {ls:List Ln} {k j:Nat} (hk:k<ls.length) (hj:j<5):(lnCells (halfL ls k))[k * 5 + j]? = ls[k].vals[j]? := by
 rw [lnCells_get _ _ _ hj (by rw [halfL_len]; exact hk),halfL_get hk]
theorem half_set {ls:List Ln} {k:Nat} (hk:k<ls.length):lnCells (halfL ls (k + 1))=(lnCells (halfL ls k)).set (k * 5 + 4) (.int .i64 0):=by
 rw [halfL_next hk]
 refine lnCells_set _ (by rw [halfL_len]; exact hk) (by decide) ?_
 rw [halfL_get hk]
 rfl
theorem halfL_got {ls:List Ln} {k:Nat} (h:k<ls.length):(halfL ls (k + 1))[k]'(by rw [halfL_len]; exact h)=ls[k].owe 0:=by
 simp only [halfL_next h,List.getElem_set_self]
theorem half_got {ls:List Ln} {k j:Nat} (hk:k<ls.length) (hj:j<5):(lnCells (halfL ls (k + 1)))[k * 5 + j]? = (ls[k].owe 0).vals[j]? := by
 rw [lnCells_get _ _ _ hj (by rw [halfL_len]; exact hk),halfL_got hk]
theorem Rowed.frozen {w:World} {base:Nat} {e:TypeId} {size:Nat} {g n cap:Nat} {xs:List Value} (h:Rowed w base e size (.slice (some ⟨g,0,none⟩) n cap) n xs) (j:Nat):w.frozen? ⟨g,j,none⟩=false:=by
 obtain ⟨_,h2⟩:=h
 rcases h2 with ⟨h2,_⟩ | ⟨g',cur,hv,hb,hg,hm,hc,ht⟩
 ·cases h2
 ·cases hv
  have hB:Blk w g cur e:=hg
  exact hB.frozen j
def SoundAt (w:World) (b1 b2:Nat) (va vb:Value) (ls ls2:List Ln) (i:Value) (wr:World):Prop :=
 ∃ k:Nat,k≤ls.length∧i=.int .i64 k∧Rowed wr b1 72 5 va ls.length (lnCells (halfL ls k))∧Rowed wr b2 72 5 vb ls.length (lnCells (halfL ls2 k))∧Below w.heap.size w wr
set_option maxHeartbeats 16000000 in
set_option maxRecDepth 100000 in
theorem sound_any {w:World} {G M G2 M2:Nat} {ps ps2:List Int} {ls ls2:List Ln} (hL:LedM w G M ps ls) (hI:LInv ps ls) (hC:LedM w G2 M2 ps2 ls2) (hJ:LInv ps2 ls2) (he:limL ls=limL ls2) :
  Calls Tryz.prog 25 #[.pointer (some ⟨G,0,none⟩),.pointer (some ⟨G2,0,none⟩)] w fun e w'=>e=.returned (.bool true)∧Below w.heap.size w w':=by
 have C1:=Lib.hid (plines_any hL hI)
 have C2:=Lib.hid (fun w' (k:Below w.heap.size w w')=>plines_any (hC.below k) hJ)
 have hlen:ls2.length=ls.length:=by have:=congrArg List.length he; unfold limL at this; simpa using this.symm
 have HG:=Lib.hid hI.inv.good
 have HX:Hid (∀ k (h:k<ls.length),∃ db,ls2[k]'(by omega)=ls[k].owe db):=Lib.hid (fun k h=>by
  have h1:(limL ls)[k]? = (limL ls2)[k]? := by rw [he]
  unfold limL at h1
  rw [List.getElem?_map,List.getElem?_map,List.getElem?_eq_getElem h,List.getElem?_eq_getElem (by omega)] at h1
  simp only [Option.map_some,Option.some.injEq] at h1
  refine ⟨(ls2[k]'(by omega)).db,?_⟩
  have a:=congrArg Ln.cr h1; have b:=congrArg Ln.de h1; have c:=congrArg Ln.cu h1; have d:=congrArg Ln.li h1
  simp only [Ln.owe] at a b c d ⊢
  rw [a,b,c,d])
 have hl64:=hI.len
 clear hL hI hC hJ he
 go_enter Tryz.func25,Tryz.ntmps25
 go_wp2_with fail
 refine C1.out.mono ?_
 rintro e w1 ⟨va,rfl,ra,b1⟩
 obtain ⟨aa,rfl,ha⟩:=rowed_shape ra
 have HA:Hid (0<ls.length→∃ g,aa=some ⟨g,0,none⟩∧g<w1.heap.size∧w.heap.size≤g):=Lib.hid (fun h=>by
  obtain ⟨g,h1,h3,h2,_⟩:=ha h
  exact ⟨g,h1,h2,h3⟩)
 have RA:=Lib.hid ra
 have B1:=Lib.hid b1
 clear ra ha b1 C1
 go_wp2_with fail
 refine (C2.out w1 B1.out).mono ?_
 rintro e w2 ⟨vb,rfl,rb,b2⟩
 rw [hlen] at rb
 obtain ⟨ab,rfl,hb⟩:=rowed_shape rb
 have HB:Hid (0<ls.length→∃ g,ab=some ⟨g,0,none⟩∧w1.heap.size≤g):=Lib.hid (fun h=>by
  obtain ⟨g,h1,h2,_⟩:=hb h
  exact ⟨g,h1,h2⟩)
 have RA2:=Lib.hid (RA.out.below b2)
 have RB2:=Lib.hid rb
 have B2:=Lib.hid (B1.out.trans (b2.mono B1.out.size))
 have hw12:=b2.size
 have hww1:=B1.out.size
 clear rb hb b2 C2 RA B1
 go_wp2_with fail
 go_loopw [7] (SoundAt w w.heap.size w1.heap.size (.slice aa ls.length ls.length) (.slice ab ls.length ls.length) ls ls2) (fun i _=>ls.length - (intOf i).toNat)
 case atStart=>exact ⟨0,by omega,rfl,by rw [halfL_zero]; exact RA2.out,by rw [halfL_zero]; exact RB2.out,B2.out⟩
 case round =>
  clear RA2 RB2 B2
  obtain ⟨k,hk,rfl,hRA,hRB,hB⟩:=hrel
  have BB:=Lib.hid hB
  clear hB
  by_cases hkl:k<ls.length
  ·have hki:(k:Int)<(ls.length:Int):=by omega
   have hk0:(0:Int)≤(k:Int):=by omega
   have q0:decide ((k:Int)<(ls.length:Int))=true:=by simpa using hkl
   obtain ⟨ga,rfl,hga,hgaw⟩:=HA.out (by omega)
   obtain ⟨gb,rfl,hgb⟩:=HB.out (by omega)
   obtain ⟨aa',hva,hra⟩:=rowed_shape hRA
   obtain ⟨ab',hvb,hrb⟩:=rowed_shape hRB
   simp only [Value.slice.injEq,and_true] at hva hvb
   subst hva
   subst hvb
   obtain ⟨_,e1,_,hal,hac⟩:=hra (by omega)
   cases e1
   obtain ⟨_,e1,_,hbl,hbc⟩:=hrb (by omega)
   cases e1
   have hl2:k<ls2.length:=by omega
   have a0:=(hac (k * 5 + 0) (by omega)).trans (half_cell hkl (j:=0) (by omega))
   have a1:=(hac (k * 5 + 1) (by omega)).trans (half_cell hkl (j:=1) (by omega))
   have a2:=(hac (k * 5 + 2) (by omega)).trans (half_cell hkl (j:=2) (by omega))
   have a3:=(hac (k * 5 + 3) (by omega)).trans (half_cell hkl (j:=3) (by omega))
   have a4:=(hac (k * 5 + 4) (by omega)).trans (half_cell hkl (j:=4) (by omega))
   have c0:=(hbc (k * 5 + 0) (by omega)).trans (half_cell hl2 (j:=0) (by omega))
   have c1:=(hbc (k * 5 + 1) (by omega)).trans (half_cell hl2 (j:=1) (by omega))
   have c2:=(hbc (k * 5 + 2) (by omega)).trans (half_cell hl2 (j:=2) (by omega))
   have c3:=(hbc (k * 5 + 3) (by omega)).trans (half_cell hl2 (j:=3) (by omega))
   have c4:=(hbc (k * 5 + 4) (by omega)).trans (half_cell hl2 (j:=4) (by omega))
   have SA:=Lib.hid (half_set hkl)
   have SB:=Lib.hid (half_set hl2)
   have hg:=HG.out ls[k] (List.getElem_mem _)
   obtain ⟨db2,hx2⟩:=HX.out k hkl
   rw [hx2] at c0 c1 c2 c3 c4
   have GA:=Lib.hid (fun j (hj:j<5)=>half_got hkl hj)
   have GB:=Lib.hid (fun j (hj:j<5)=>half_got hl2 hj)
   rw [hx2] at GB
   obtain ⟨x,hx⟩:∃ x,ls[k]=x:=⟨_,rfl⟩
   rw [hx] at a0 a1 a2 a3 a4 c0 c1 c2 c3 c4 hg GA GB
   clear hx hx2 hra hrb hac hbc
   obtain ⟨cr,de,cu,li,db⟩:=x
   have g1:=hg.db.1
   have g2:=hg.db.2
   dsimp only at g1 g2
   simp only [Ln.vals,Ln.owe,List.getElem?_cons_zero,List.getElem?_cons_succ,Nat.add_zero] at a0 a1 a2 a3 a4 c0 c1 c2 c3 c4
   have q1:decide (db<0)=false:=by simp; omega
   have q2:decide (li<db)=false:=by simp; omega
   have HK:=Lib.hid hkl
   have RA:=Lib.hid hRA
   have RB:=Lib.hid hRB
   clear hRA hRB hg g1 g2
   go_wp2_with fail
   go_quiet (fail)
   have RA1:=Lib.hid (show Rowed (wr.drewN nq) w.heap.size 72 5 _ ls.length _ from RA.out)
   have RB1:=Lib.hid (show Rowed (wr.drewN nq) w1.heap.size 72 5 _ ls.length _ from RB.out)
   have BB1:=Lib.hid (show Below w.heap.size w (wr.drewN nq) from ⟨BB.out.os,BB.out.tape,BB.out.output,BB.out.size,BB.out.block⟩)
   replace a4:(wr.drewN nq).cell? ⟨ga,k * 5 + 4,none⟩=_:=a4
   replace c4:(wr.drewN nq).cell? ⟨gb,k * 5 + 4,none⟩=_:=c4
   replace hal:ga<(wr.drewN nq).heap.size:=hal
   replace hbl:gb<(wr.drewN nq).heap.size:=hbl
   clear RA RB BB a0 a1 a2 a3 c0 c1 c2 c3
   generalize wr.drewN nq=W1 at *
   have fa:=RA1.out.frozen (k * 5 + 4)
   have fb:=RB1.out.frozen (k * 5 + 4)
   have hgn:ga≠gb:=by omega
   have RA3:=Lib.hid ((RA1.out.set (j:=k * 5 + 4) (by omega) (.int .i64 0)).keep ((Keep.refl (·=gb) _).setCell (p:=⟨gb,k * 5 + 4,none⟩) (.inl rfl) (.int .i64 0)) (fun b hb=>by cases hb; exact hgn))
   have RB3:=Lib.hid ((RB1.out.keep ((Keep.refl (·=ga) W1).setCell (p:=⟨ga,k * 5 + 4,none⟩) (.inl rfl) (.int .i64 0)) (fun b hb=>by cases hb; exact fun e=>hgn e.symm)).set (j:=k * 5 + 4) (by omega) (.int .i64 0))
   rw [← SA.out] at RA3
   rw [← SB.out] at RB3
   go_upto_region 12 with fail
   have BB3:=Lib.hid ((BB1.out.setCell (p:=⟨ga,k * 5 + 4,none⟩) hgaw (.int .i64 0)).setCell (p:=⟨gb,k * 5 + 4,none⟩) (by show w.heap.size≤gb; omega) (.int .i64 0))
   clear RA1 RB1 BB1 a4 c4 fa fb hal hbl
   generalize (W1.setCell ⟨ga,k * 5 + 4,none⟩ (.int .i64 0)).setCell ⟨gb,k * 5 + 4,none⟩ (.int .i64 0)=W3 at *
   obtain ⟨aa',hva,hra⟩:=rowed_shape RA3.out
   obtain ⟨ab',hvb,hrb⟩:=rowed_shape RB3.out
   simp only [Value.slice.injEq,and_true] at hva hvb
   subst hva
   subst hvb
   obtain ⟨_,e1,_,hal,hac⟩:=hra (by have:=HK.out; omega)
   cases e1
   obtain ⟨_,e1,_,hbl,hbc⟩:=hrb (by have:=HK.out; omega)
   cases e1
   have a0:=(hac (k * 5 + 0) (by omega)).trans (GA.out 0 (by omega))
   have a1:=(hac (k * 5 + 1) (by omega)).trans (GA.out 1 (by omega))
   have a2:=(hac (k * 5 + 2) (by omega)).trans (GA.out 2 (by omega))
   have a3:=(hac (k * 5 + 3) (by omega)).trans (GA.out 3 (by omega))
   have a4:=(hac (k * 5 + 4) (by omega)).trans (GA.out 4 (by omega))
   have c0:=(hbc (k * 5 + 0) (by omega)).trans (GB.out 0 (by omega))
   have c1:=(hbc (k * 5 + 1) (by omega)).trans (GB.out 1 (by omega))
   have c2:=(hbc (k * 5 + 2) (by omega)).trans (GB.out 2 (by omega))
   have c3:=(hbc (k * 5 + 3) (by omega)).trans (GB.out 3 (by omega))
   have c4:=(hbc (k * 5 + 4) (by omega)).trans (GB.out 4 (by omega))
   simp only [Ln.vals,Ln.owe,List.getElem?_cons_zero,List.getElem?_cons_succ,Nat.add_zero] at a0 a1 a2 a3 a4 c0 c1 c2 c3 c4
   clear hra hrb hac hbc GA GB
   go_wp2_with fail
   go_quiet (fail)
   have RA4:=Lib.hid (show Rowed (W3.drewN nq) w.heap.size 72 5 _ ls.length _ from RA3.out)
   have RB4:=Lib.hid (show Rowed (W3.drewN nq) w1.heap.size 72 5 _ ls.length _ from RB3.out)
   have BB4:=Lib.hid (show Below w.heap.size w (W3.drewN nq) from ⟨BB3.out.os,BB3.out.tape,BB3.out.output,BB3.out.size,BB3.out.block⟩)
   clear RA3 RB3 BB3 a0 a1 a2 a3 a4 c0 c1 c2 c3 c4 hal hbl
   generalize W3.drewN nq=W4 at *
   go_wp2_with fail
   exact ⟨⟨k + 1,by have:=HK.out; omega,by go_num,RA4.out,RB4.out,BB4.out⟩,by simp [intOf]; have:=HK.out; omega⟩
  ·have hkn:k=ls.length:=by omega
   subst hkn
   have q0:decide (((ls.length:Nat):Int)<(ls.length:Int))=false:=by simp
   clear hRA hRB
   go_wp2_with fail
   go_ret
   exact ⟨rfl,BB.out⟩
end Go.Proofs.YtlbjjkbppbmihaaGreat
namespace Go.Proofs.YtlbjjkbppbmihaaGreat
open Go.RowKit
def actL (x:Ac) (σ:List Int × List Ln):List Int × List Ln :=
 if x.k % 8=0 then (openP σ.1 x.a,σ.2) else if x.k % 8≤2 then (σ.1,trustL σ.1 σ.2 x.a x.b x.c x.n) else if x.k % 8≤5 then (σ.1,pushL σ.1 σ.2 x.a x.b x.c x.n) else if x.k % 8=6 then (σ.1,forgiveL σ.2 x.a x.b x.c x.n) else σ
def actsL (xs:List Ac):List Int × List Ln:=xs.foldl (fun σ x=>actL x σ) ([],[])
theorem actsL_next {xs:List Ac} {k:Nat} (h:k<xs.length) {ps:List Int} {ls:List Ln} (e:actsL (xs.take k)=(ps,ls)):actsL (xs.take (k + 1))=actL xs[k] (ps,ls):=by
 unfold actsL at *
 rw [List.take_succ_eq_append_getElem h,List.foldl_append,e]
 rfl
def MadePost (w:World) (e:Ending) (w':World):Prop :=
 ∃ G M ps ls,e=.returned (.pointer (some ⟨G,0,none⟩))∧LedM w' G M ps ls∧LInv ps ls∧w.heap.size≤G∧w.heap.size≤M∧Below w.heap.size w w'
def MadeAt (w:World) (G M len:Nat) (xs:List Ac) (i:Value) (wr:World):Prop :=
 ∃ k:Nat,k≤len∧i=.int .i64 k∧∃ ps ls,LedM wr G M ps ls∧LInv ps ls∧Below w.heap.size w wr∧Hid (actsL (xs.take k)=(ps,ls))
def MadePostF (w:World) (xs:List Ac) (e:Ending) (w':World):Prop :=
 ∃ G M ps ls,e=.returned (.pointer (some ⟨G,0,none⟩))∧LedM w' G M ps ls∧LInv ps ls∧w.heap.size≤G∧w.heap.size≤M∧Below w.heap.size w w'∧actsL xs=(ps,ls)
set_option maxHeartbeats 8000000 in
set_option maxRecDepth 100000 in
theorem made_actsF {w:World} {a:Option Addr} {len cap:Nat} {xs:List Ac} (h:ActsIn w a len cap xs) (hl:len≤120) :
  Calls Tryz.prog 17 #[.slice a len cap] w (MadePostF w xs):=by
 have HA:=Lib.hid h
 have hxl:xs.length=len:=h.1
 have hcap:=h.2.2.1
 have hmax:=h.2.2.2.1
 unfold maxLen at hmax
 clear h
 go_enter Tryz.func17,Tryz.ntmps17
 go_wp2_with fail
 refine (new_any w).mono ?_
 rintro e w0 ⟨G,M,rfl,h0,hG,hM,hb0⟩
 have H0:=Lib.hid h0
 have B0:=Lib.hid hb0
 clear h0 hb0
 go_wp2_with fail
 go_loopw [4] (MadeAt w G M len xs) (fun i _=>len - (intOf i).toNat)
 case atStart=>exact ⟨0,Nat.zero_le _,rfl,[],[],H0.out,LInv.nil,B0.out,Lib.hid rfl⟩
 case round =>
  obtain ⟨k,hk,rfl,ps,ls,hL,hI,hB,hAct⟩:=hrel
  have HL:=Lib.hid hL
  have HI:=Lib.hid hI
  have HB:=Lib.hid hB
  clear hL hI hB
  by_cases hkl:k<len
  ·obtain ⟨b,off,rfl,hb,d0,d1,d2,d3,d4⟩:=(HA.out.below HB.out).at (i:=k) (by omega)
   have hx:=HA.out.2.1 xs[k] (List.getElem_mem _)
   have AT:=Lib.hid (actsL_next (by omega) hAct.out)
   generalize hxe:xs[k]=x at *
   clear hxe
   obtain ⟨k1,k2⟩:=hx.k
   have bw:=(Below.refl wr.heap.size wr).alloc (Nat.le_refl _) (.cells #[.int .u8 x.k,.int .u8 x.a,.int .u8 x.b,.int .u8 x.c,.int .i64 x.n] 33)
   have HW:=Lib.hid (HL.out.below bw)
   have BW:=Lib.hid (HB.out.trans (bw.mono HB.out.size))
   clear bw
   have hs:x.k % 8=0∨x.k % 8=1∨x.k % 8=2∨x.k % 8=3∨x.k % 8=4∨x.k % 8=5∨x.k % 8=6∨x.k % 8=7:=by omega
   rcases hs with hj | hj | hj | hj | hj | hj | hj | hj
   ·have AN:=Lib.hid (AT.out.trans (show actL x (ps,ls)=(openP ps x.a,ls) by unfold actL; simp [hj]))
    have q1:x.k % 8=0:=hj
    have q2:x.k.tmod 8=0:=by rw [Int.tmod_eq_emod_of_nonneg hx.k.1]; exact hj
    clear hj
    have C:=Lib.hid (open_any HW.out HI.out.bd x.a)
    have HI2:=Lib.hid (LInv.open HI.out x.a)
    clear hx
    go_wp2_with fail
    refine C.out.mono ?_
    rintro e w2 ⟨rfl,h2,k2⟩
    have H2:=Lib.hid h2
    have B2:=Lib.hid (BW.out.trans (k2.below BW.out.size (fun b hb e=>by omega)))
    clear h2 k2 C
    go_wp2_with fail
    go_roundw
    case rel=>exact ⟨k + 1,by omega,by go_num,_,_,H2.out,HI2.out,B2.out,AN⟩
    case measure=>simp [intOf]; omega
   ·have AN:=Lib.hid (AT.out.trans (show actL x (ps,ls)=(ps,trustL ps ls x.a x.b x.c x.n) by unfold actL; simp [hj]))
    have q1:x.k % 8=1:=hj
    have q2:x.k.tmod 8=1:=by rw [Int.tmod_eq_emod_of_nonneg hx.k.1]; exact hj
    clear hj
    have C:=Lib.hid (ptrust_any (a:=x.a) (b:=x.b) (c:=x.c) (n:=x.n) HW.out HI.out hx.a hx.b hx.c)
    have HI2:=Lib.hid (LInv.trust HI.out x.a x.b x.c x.n)
    clear hx
    go_wp2_with fail
    refine C.out.mono ?_
    rintro e w2 ⟨rfl,h2,k2⟩
    have H2:=Lib.hid h2
    have B2:=Lib.hid (BW.out.trans (k2.below BW.out.size (fun b hb e=>by omega)))
    clear h2 k2 C
    go_wp2_with fail
    go_roundw
    case rel=>exact ⟨k + 1,by omega,by go_num,_,_,H2.out,HI2.out,B2.out,AN⟩
    case measure=>simp [intOf]; omega
   ·have AN:=Lib.hid (AT.out.trans (show actL x (ps,ls)=(ps,trustL ps ls x.a x.b x.c x.n) by unfold actL; simp [hj]))
    have q1:x.k % 8=2:=hj
    have q2:x.k.tmod 8=2:=by rw [Int.tmod_eq_emod_of_nonneg hx.k.1]; exact hj
    clear hj
    have C:=Lib.hid (ptrust_any (a:=x.a) (b:=x.b) (c:=x.c) (n:=x.n) HW.out HI.out hx.a hx.b hx.c)
    have HI2:=Lib.hid (LInv.trust HI.out x.a x.b x.c x.n)
    clear hx
    go_wp2_with fail
    refine C.out.mono ?_
    rintro e w2 ⟨rfl,h2,k2⟩
    have H2:=Lib.hid h2
    have B2:=Lib.hid (BW.out.trans (k2.below BW.out.size (fun b hb e=>by omega)))
    clear h2 k2 C
    go_wp2_with fail
    go_roundw
    case rel=>exact ⟨k + 1,by omega,by go_num,_,_,H2.out,HI2.out,B2.out,AN⟩
    case measure=>simp [intOf]; omega
   ·have AN:=Lib.hid (AT.out.trans (show actL x (ps,ls)=(ps,pushL ps ls x.a x.b x.c x.n) by unfold actL; simp [hj]))
    have q1:x.k % 8=3:=hj
    have q2:x.k.tmod 8=3:=by rw [Int.tmod_eq_emod_of_nonneg hx.k.1]; exact hj
    clear hj
    have C:=Lib.hid (ppush_any (a:=x.a) (b:=x.b) (c:=x.c) (n:=x.n) HW.out HI.out hx.a hx.b hx.c hx.n)
    have HI2:=Lib.hid (LInv.push HI.out x.a x.b x.c x.n)
    clear hx
    go_wp2_with fail
    refine C.out.mono ?_
    rintro e w2 ⟨rfl,h2,k2⟩
    have H2:=Lib.hid h2
    have B2:=Lib.hid (BW.out.trans (k2.below BW.out.size (fun b hb e=>by omega)))
    clear h2 k2 C
    go_wp2_with fail
    go_roundw
    case rel=>exact ⟨k + 1,by omega,by go_num,_,_,H2.out,HI2.out,B2.out,AN⟩
    case measure=>simp [intOf]; omega
   ·have AN:=Lib.hid (AT.out.trans (show actL x (ps,ls)=(ps,pushL ps ls x.a x.b x.c x.n) by unfold actL; simp [hj]))
    have q1:x.k % 8=4:=hj
    have q2:x.k.tmod 8=4:=by rw [Int.tmod_eq_emod_of_nonneg hx.k.1]; exact hj
    clear hj
    have C:=Lib.hid (ppush_any (a:=x.a) (b:=x.b) (c:=x.c) (n:=x.n) HW.out HI.out hx.a hx.b hx.c hx.n)
    have HI2:=Lib.hid (LInv.push HI.out x.a x.b x.c x.n)
    clear hx
    go_wp2_with fail
    refine C.out.mono ?_
    rintro e w2 ⟨rfl,h2,k2⟩
    have H2:=Lib.hid h2
    have B2:=Lib.hid (BW.out.trans (k2.below BW.out.size (fun b hb e=>by omega)))
    clear h2 k2 C
    go_wp2_with fail
    go_roundw
    case rel=>exact ⟨k + 1,by omega,by go_num,_,_,H2.out,HI2.out,B2.out,AN⟩
    case measure=>simp [intOf]; omega
   ·have AN:=Lib.hid (AT.out.trans (show actL x (ps,ls)=(ps,pushL ps ls x.a x.b x.c x.n) by unfold actL; simp [hj]))
    have q1:x.k % 8=5:=hj
    have q2:x.k.tmod 8=5:=by rw [Int.tmod_eq_emod_of_nonneg hx.k.1]; exact hj
    clear hj
    have C:=Lib.hid (ppush_any (a:=x.a) (b:=x.b) (c:=x.c) (n:=x.n) HW.out HI.out hx.a hx.b hx.c hx.n)
    have HI2:=Lib.hid (LInv.push HI.out x.a x.b x.c x.n)
    clear hx
    go_wp2_with fail
    refine C.out.mono ?_
    rintro e w2 ⟨rfl,h2,k2⟩
    have H2:=Lib.hid h2
    have B2:=Lib.hid (BW.out.trans (k2.below BW.out.size (fun b hb e=>by omega)))
    clear h2 k2 C
    go_wp2_with fail
    go_roundw
    case rel=>exact ⟨k + 1,by omega,by go_num,_,_,H2.out,HI2.out,B2.out,AN⟩
    case measure=>simp [intOf]; omega
   ·have AN:=Lib.hid (AT.out.trans (show actL x (ps,ls)=(ps,forgiveL ls x.a x.b x.c x.n) by unfold actL; simp [hj]))
    have q1:x.k % 8=6:=hj
    have q2:x.k.tmod 8=6:=by rw [Int.tmod_eq_emod_of_nonneg hx.k.1]; exact hj
    clear hj
    have C:=Lib.hid (forgive_any (a:=x.a) (b:=x.b) (c:=x.c) (n:=x.n) HW.out HI.out.inv hx.a hx.b hx.c hx.n)
    have HI2:=Lib.hid (LInv.forgive HI.out x.a x.b x.c x.n)
    clear hx
    go_wp2_with fail
    refine C.out.mono ?_
    rintro e w2 ⟨rfl,h2,k2⟩
    have H2:=Lib.hid h2
    have B2:=Lib.hid (BW.out.trans (k2.below BW.out.size (fun b hb e=>by omega)))
    clear h2 k2 C
    go_wp2_with fail
    go_roundw
    case rel=>exact ⟨k + 1,by omega,by go_num,_,_,H2.out,HI2.out,B2.out,AN⟩
    case measure=>simp [intOf]; omega
   ·have AN:=Lib.hid (AT.out.trans (show actL x (ps,ls)=(ps,ls) by unfold actL; simp [hj]))
    have q1:x.k % 8=7:=hj
    have q2:x.k.tmod 8=7:=by rw [Int.tmod_eq_emod_of_nonneg hx.k.1]; exact hj
    clear hj
    clear hx
    go_wp2_with fail
    go_roundw
    case rel=>exact ⟨k + 1,by omega,by go_num,ps,ls,HW.out,HI.out,BW.out,AN⟩
    case measure=>simp [intOf]; omega
  ·go_wp2_with fail
   refine bodyPost_ret (v:=.pointer (some ⟨G,0,none⟩)) (by simp [results,Tryz.results17,go_sem]) rfl ?_
   exact ⟨G,M,ps,ls,rfl,HL.out,HI.out,hG,hM,HB.out,by have:=hAct.out; rwa [List.take_of_length_le (by omega)] at this⟩
theorem made_acts {w:World} {a:Option Addr} {len cap:Nat} {xs:List Ac} (h:ActsIn w a len cap xs) (hl:len≤120) :
  Calls Tryz.prog 17 #[.slice a len cap] w (MadePost w) :=
 (made_actsF h hl).mono fun e w' ⟨G,M,ps,ls,h1,h2,h3,h4,h5,h6,_⟩=>⟨G,M,ps,ls,h1,h2,h3,h4,h5,h6⟩
end Go.Proofs.YtlbjjkbppbmihaaGreat
namespace Go.Proofs.YtlbjjkbppbmihaaGreat
open Go.RowKit
theorem tot_bd {ps:List Int} {ls:List Ln} (h:LInv ps ls) (c:Int):totL ls c≤70368744177664:=by
 have h1:=sum_le (totOf c) 1099511627776 ls (fun x hx=>totOf_bd (h.inv.good x hx) c)
 have:=h.len
 unfold totL
 omega
theorem net_lims {ps:List Int} {ls:List Ln} (h:LInv ps ls) (c:Int) {L:Nat→Int} (hL:RdOk (debtsL ls c) L):limL (netL ls c L)=limL ls:=by
 have N:=net_is h c hL
 have iv:=(netL_inv h c L).inv
 have f:∀ a b q,lineL (netL ls c L) a b q=lineL ls a b q∨∃ d,lineL (netL ls c L) a b q=(lineL ls a b q).map fun x=>x.owe d:=fun a b q=>by
  by_cases hp:∃ i,i<(debtsL ls c).length∧q=c∧(dbt (debtsL ls c) i).tt=a∧(dbt (debtsL ls c) i).fr=b
  ·obtain ⟨i,hi,rfl,rfl,rfl⟩:=hp
   exact .inr ⟨_,N.here i hi⟩
  ·exact .inl (N.else_ a b q (fun i hi e=>hp ⟨i,hi,e⟩))
 have hs:∀ {m:List Ln},m.Pairwise (fun x y=>x.rank<y.rank)→(limL m).Pairwise (fun x y=>x.rank<y.rank):=fun {m} hm=>by
  unfold limL
  rw [List.pairwise_map]
  exact hm
 refine sorted_ext _ _ (hs iv.sorted) (hs h.inv.sorted) fun z=>?_
 unfold limL
 rw [List.mem_map,List.mem_map]
 constructor
 ·rintro ⟨y,hy,rfl⟩
  have hl:=(line_iff iv y.cr y.de y.cu y).2 ⟨hy,rfl,rfl,rfl⟩
  rcases f y.cr y.de y.cu with e | ⟨d,e⟩
  ·rw [e] at hl
   exact ⟨y,(lineL_mem hl).1,rfl⟩
  ·rw [e] at hl
   obtain ⟨x,hx,e2⟩:=Option.map_eq_some_iff.1 hl
   exact ⟨x,(lineL_mem hx).1,by rw [← e2]; rfl⟩
 ·rintro ⟨x,hx,rfl⟩
  have hl:=(line_iff h.inv x.cr x.de x.cu x).2 ⟨hx,rfl,rfl,rfl⟩
  rcases f x.cr x.de x.cu with e | ⟨d,e⟩
  ·rw [hl] at e
   exact ⟨x,(lineL_mem e).1,rfl⟩
  ·rw [hl] at e
   exact ⟨_,(lineL_mem e).1,rfl⟩
structure NetGo (ps:List Int) (ls:List Ln) (c:Int) (L:Nat→Int) (k:Nat):Prop where
 least:IsLeast (debtsL ls c) L k
 tot:sumN (amD (debtsL ls c)) (debtsL ls c).length=totL ls c
 left:sumN (amD (debtsL (netL ls c L) c)) (debtsL (netL ls c L) c).length=totL (netL ls c L) c
 lo:0≤totL (netL ls c L) c
 hi:totL ls c≤70368744177664
 sum:(k:Int)≤totL ls c - totL (netL ls c L) c
 fair:FairI (debtsL (netL ls c L) c) (debtsL ls c)
 few:∃ far,LeastI far (debtsL (netL ls c L) c) (debtsL ls c)
 lim:limL (netL ls c L)=limL ls
 pos:∀ p q,posL (netL ls c L) p q=posL ls p q
 else_:∀ q,q≠c→debtsL (netL ls c L) q=debtsL ls q
theorem sumN_nn {g:Nat→Int} {n:Nat} (h:∀ i,i<n→0≤g i):0≤sumN g n:=by
 induction n with
 | zero=>exact Int.le_refl _
 | succ n ih =>
  have h1:=ih (fun i hi=>h i (by omega))
  have h2:=h n (by omega)
  show 0≤sumN g n + g n
  omega
theorem net_go {ps:List Int} {ls:List Ln} (h:LInv ps ls) (c:Int) {L:Nat→Int} {k:Nat} (hL:IsLeast (debtsL ls c) L k):NetGo ps ls c L k:=by
 have ok:=hL.inv.ok
 have may:=debtsL_may h c
 have len:=debts_len h c
 have h64:=Nat.le_trans len (by decide:240≤240)
 have eD:=net_debts h c ok
 have eT:=net_tot h c ok
 have dt:=(debts_tot h c).1
 have ds:=hL.inv.sum
 have bd:=sumN_bd (g:=amD (debtsL ls c)) (B:=1099511627776) (debtsL ls c).length (fun i hi=>by
  have:=(may.ok i hi).2.2.2
  unfold amD
  omega)
 have tb:=tot_bd h c
 refine ⟨hL,dt,(debts_tot (netL_inv h c L) c).1,?_,tb,by omega,by rw [eD]; exact left_fair may len hL,by rw [eD]; exact left_least may len hL,net_lims h c ok,net_pos h c ok hL.inv.pos,fun q hq=>net_else h c ok hq⟩
 rw [eT]
 exact sumN_nn ok.lo
end Go.Proofs.YtlbjjkbppbmihaaGreat
