/-
  Pieces of one proof, without what is not wanted: SwapsExact.
-/
import Derived.Test.YtojbmnbphdcjfaaGreatE01
import Derived.Test.YtojbmnbphdcjfaaGreatE02
import Derived.Test.YtojbmnbphdcjfaaGreatE05
import Derived.Test.YtojbmnbphdcjfaaGreatE06
import Derived.Test.YtojbmnbphdcjfaaGreatE14
import Derived.Test.YtojbmnbphdcjfaaGreatE16
import Derived.Test.YtojbmnbphdcjfaaGreatE17
import Derived.Test.YtojbmnbphdcjfaaGreatE18
import Derived.Test.YtojbmnbphdcjfaaGreatE19
import Derived.Test.YtojbmnbphdcjfaaGreatE20
import Derived.Test.YtojbmnbphdcjfaaGreatE21
import Derived.Test.YtojbmnbphdcjfaaGreatE28
import Derived.Laws.AppendOwnNone
import Derived.Deep.RegionWith
set_option linter.unusedSimpArgs false
set_option linter.unusedVariables false
namespace Go.Proofs.YtojbmnbphdcjfaaGreat
open Go.RowKit
theorem info_bits (f:Nat→Bool):(Tryz.prog.info? 57).map (·.size)=some (bitsP f).size:=by
 rw [show (bitsP f).size=17 by unfold bitsP; simp]
 kernel_rfl
theorem bitsP_none:(#[.bool false,.bool false,.bool false,.bool false,.bool false,.bool false,.bool false,.bool false,.bool false,.bool false,.bool false,.bool false,.bool false,.bool false,.bool false,.bool false,.bool false]:Array Value)=bitsP (fun _=>false):=rfl
theorem wpList_load_row_w {P:Program} {ops:Array Oper} {rest:List Oper} {o:Oper} {a:Act} {w:World} {Q:Exit→Act→World→Prop} (ty:TypeId) (x:Operand) (ho:o.op=.load ty x)
  (g:Nat) (hx:a.eval x=.pointer (some ⟨g,0,none⟩)) (t:TypeId) (cs:Array Value) (fr:Nat × Nat) (d:TypeDesc) (hg:w.heap[g]? = some (.cells cs t fr))
  (hu:P.underlying ty=some d) (hd:(match d with | .struct _ | .array _ _=>true | _=>false)=true) (hi:(P.info? ty).map (·.size)=some cs.size) (hw:Region.wanted o (yielded ops a.tmps)=true)
  (h:wpList P ops Q rest (a.put o.dst (.agg cs)) w):wpList P ops Q (o::rest) a w :=
 BigFrame.wpList_want hw fun _ hK=>wp_load_row ty x ho g hx t cs fr d hg hu hd hi (hK _ _ h)
def PartsP (l:List Of) (fr pt:Int) (fs:List Fl) (k:Nat) (f:Nat→Bool):Prop:=∀ j:Nat,f j=false→(j:Int)≠fr∧(j:Int)≠pt∧∀ x ∈ fs.take k,∀ o,findO l x.se=some o→(j:Int)≠o.ow
def ExAt (W:World) (XB:Nat) (l:List Of) (fr pt:Int) (fs:List Fl) (gv i:Value) (wr:World):Prop :=
 ∃ (k:Nat) (f:Nat→Bool),k≤fs.length∧i=.int .i64 k∧gv=.int .i64 ((fs.take k).map Fl.got).sum∧Blk wr XB (bitsP f) 57∧PartsP l fr pt fs k f∧Keep (·=XB) W wr
theorem got_bd {fs:List Fl} (h:∀ f ∈ fs,1≤f.got∧f.got≤1099511627776):∀ k:Nat,0≤((fs.take k).map Fl.got).sum∧((fs.take k).map Fl.got).sum≤1099511627776 * (k:Int)
 | 0=>by simp
 | k + 1=>by
  have h1:=got_bd h k
  by_cases hk:k<fs.length
  ·rw [List.take_succ_eq_append_getElem hk,List.map_append,List.sum_append]
   have h2:=h fs[k] (List.getElem_mem hk)
   simp only [List.map_cons,List.map_nil,List.sum_cons,List.sum_nil]
   omega
  ·rw [List.take_of_length_le (by omega)] at h1 ⊢
   omega
set_option maxHeartbeats 64000000 in
set_option maxRecDepth 100000 in
theorem sexact11_walk (HMy:FMayProg) (HD:FDoProg) (HC:FCopyProg) (HL:Lives11) (x:Wd) (y:Sk) (w:World) (h0:x.In w) (hy:y.Fits) :
  Calls Tryz.prog 5 #[.agg #[.slice x.a1 x.n1 x.c1,.slice x.a2 x.n2 x.c2],.agg #[.int .u8 y.fr,.int .u8 y.pt,.int .u8 y.get,.int .u8 y.give,.int .i64 y.n,.int .i64 y.mo]] w fun e w'=>e=.returned (.bool true)∧Below w.heap.size w w':=by
 obtain ⟨a1,n1,c1,xs,a2,n2,c2,os⟩:=x
 obtain ⟨hA,hO⟩:=h0
 dsimp only at hA hO ⊢
 have m1:n1≤maxLen:=Nat.le_trans hA.2.2.1 hA.2.2.2.1
 have m2:n2≤maxLen:=Nat.le_trans hO.2.2.2.1 hO.2.2.2.2.1
 have b1:=(Below.refl w.heap.size w).alloc (Nat.le_refl _) (.cells #[.slice a1 n1 c1,.slice a2 n2 c2] 25)
 have b2:=b1.alloc b1.size (.cells #[.int .u8 y.fr,.int .u8 y.pt,.int .u8 y.get,.int .u8 y.give,.int .i64 y.n,.int .i64 y.mo] 42)
 have KX:=Lib.hid ((Blk.new w #[.slice a1 n1 c1,.slice a2 n2 c2] 25).alloc (.cells #[.int .u8 y.fr,.int .u8 y.pt,.int .u8 y.get,.int .u8 y.give,.int .i64 y.n,.int .i64 y.mo] 42))
 have KA:=Lib.hid (Blk.newAt (w.alloc (.cells #[.slice a1 n1 c1,.slice a2 n2 c2] 25)) #[.int .u8 y.fr,.int .u8 y.pt,.int .u8 y.get,.int .u8 y.give,.int .i64 y.n,.int .i64 y.mo] 42 (g:=w.heap.size + 1) (by simp))
 have HA:=Lib.hid (hA.below b2)
 have HO:=Lib.hid (hO.below b2)
 have B1:=Lib.hid b2
 have HY:=Lib.hid hy
 have HLo:=Lib.hid HL
 have HGt:=Lib.hid (fun w=>great10_any (w:=w) a1 a2 n1 n2 c1 c2 m1 m2)
 clear b1 b2 hA hO m1 m2 hy HL
 go_enter Tryz.func5,Tryz.ntmps5
 go_upto_region 1 with fail
 generalize (w.alloc (.cells #[.slice a1 n1 c1,.slice a2 n2 c2] 25)).alloc (.cells #[.int .u8 y.fr,.int .u8 y.pt,.int .u8 y.get,.int .u8 y.give,.int .i64 y.n,.int .i64 y.mo] 42)=W at *
 have x0:=KX.out.cell 0
 have x1:=KX.out.cell 1
 have xl:=KX.out.lt
 simp at x0 x1
 go_wp2_with fail
 refine (HGt.out _).mono ?_
 rintro e w_1 ⟨rfl,b⟩
 clear x0 x1 xl
 have X_2:=Lib.hid (KX.out.below b KX.out.lt)
 have A_3:=Lib.hid (KA.out.below b KA.out.lt)
 have I_4:=Lib.hid (HA.out.below b)
 have J_5:=Lib.hid (HO.out.below b)
 have B_6:=Lib.hid (B1.out.trans (b.mono B1.out.size))
 clear KX KA HA HO B1
 clear b
 clear HGt
 by_cases hgt:120<n1∨40<n2
 ·rw [decide_eq_true hgt]
  go_wp2_with fail
  refine (HLo.out _).mono ?_
  rintro e w_7 ⟨rfl,b⟩
  have X_8:=Lib.hid (X_2.out.below b X_2.out.lt)
  have A_9:=Lib.hid (A_3.out.below b A_3.out.lt)
  have I_10:=Lib.hid (I_4.out.below b)
  have J_11:=Lib.hid (J_5.out.below b)
  have B_12:=Lib.hid (B_6.out.trans (b.mono B_6.out.size))
  clear X_2 A_3 I_4 J_5 B_6
  clear b
  go_wp2_with fail
  go_ret
  exact ⟨rfl,B_12.out⟩
 rw [decide_eq_false hgt]
 have CM:=Lib.hid (made10_any I_4.out J_5.out (by omega) (by omega))
 have x0:=X_2.out.cell 0
 have x1:=X_2.out.cell 1
 have xl:=X_2.out.lt
 simp at x0 x1
 go_wp2_with fail
 refine CM.out.mono ?_
 rintro e w2 ⟨G,M,gb,ps,ls,l,N,vl,rfl,hL,hI,hG1,hM1,hP,hJ,hN,hgG,hgM,hvl,b2,hac,hof⟩
 have GE:=Lib.hid (show (w.heap.size + 1<G∧w.heap.size + 1<M∧∀ b,Foot gb vl b→w.heap.size + 1<b)∧w.heap.size + 1<w2.heap.size from by have hs:=A_3.out.lt; have hs2:=b2.size; exact ⟨⟨by omega,by omega,fun b hb=>by have:=(hP.lt hb).1; omega⟩,by omega⟩)
 clear x0 x1 xl
 have A_13:=Lib.hid (A_3.out.below b2 A_3.out.lt)
 have B_14:=Lib.hid (B_6.out.trans (b2.mono B_6.out.size))
 clear X_2 A_3 I_4 J_5 B_6
 have L0:=Lib.hid hL
 have P0:=Lib.hid hP
 have II:=Lib.hid hI
 have JJ:=Lib.hid hJ
 clear hL hI hG1 hM1 hP hJ hN hgG hgM hvl hac hof b2 CM
 have bf:=(Below.refl w2.heap.size w2).alloc (Nat.le_refl _) (.cells #[.pointer (some ⟨G,0,none⟩),.pointer (some ⟨gb,0,none⟩)] 32)
 have H0:=Lib.hid (Blk.new w2 #[.pointer (some ⟨G,0,none⟩),.pointer (some ⟨gb,0,none⟩)] 32)
 have A_15:=Lib.hid (A_13.out.below bf A_13.out.lt)
 have B_16:=Lib.hid (B_14.out.trans (bf.mono B_14.out.size))
 have L_17:=Lib.hid (L0.out.below bf)
 have P_18:=Lib.hid (P0.out.below bf)
 clear A_13 B_14 L0 P0
 clear bf
 have CC:=Lib.hid (HC L_17.out II.out P_18.out JJ.out)
 have h0:=H0.out.cell 0
 have h1:=H0.out.cell 1
 have hl:=H0.out.lt
 simp at h0 h1
 go_wp2_with fail
 refine CC.out.mono ?_
 rintro e w4 ⟨G1,M1,gb1,vb1,rfl,hL1,hP1,hg1,hm1,b4⟩
 have GE4:=Lib.hid (show w2.heap.size<w4.heap.size from by have:=b4.size; have:=H0.out.lt; omega)
 clear h0 h1 hl
 have A_19:=Lib.hid (A_15.out.below b4 A_15.out.lt)
 have B_20:=Lib.hid (B_16.out.trans (b4.mono B_16.out.size))
 have L_21:=Lib.hid (L_17.out.below b4)
 have P_22:=Lib.hid (P_18.out.below b4)
 have H_23:=Lib.hid (H0.out.below b4 H0.out.lt)
 clear A_15 B_16 L_17 P_18 H0
 have L1:=Lib.hid hL1
 have P1:=Lib.hid hP1
 clear hL1 hP1 hg1 hm1 b4 CC
 have bf:=(Below.refl w4.heap.size w4).alloc (Nat.le_refl _) (.cells #[.pointer (some ⟨G1,0,none⟩),.pointer (some ⟨gb1,0,none⟩)] 32)
 have C0:=Lib.hid (Blk.new w4 #[.pointer (some ⟨G1,0,none⟩),.pointer (some ⟨gb1,0,none⟩)] 32)
 have A_24:=Lib.hid (A_19.out.below bf A_19.out.lt)
 have B_25:=Lib.hid (B_20.out.trans (bf.mono B_20.out.size))
 have L_26:=Lib.hid (L_21.out.below bf)
 have P_27:=Lib.hid (P_22.out.below bf)
 have H_28:=Lib.hid (H_23.out.below bf H_23.out.lt)
 have m_29:=Lib.hid (L1.out.below bf)
 have q_30:=Lib.hid (P1.out.below bf)
 clear A_19 B_20 L_21 P_22 H_23 L1 P1
 clear bf
 have h0:=H_28.out.cell 0
 have h1:=H_28.out.cell 1
 have hl:=H_28.out.lt
 simp at h0 h1
 have a0:=A_24.out.cell 0
 have a1:=A_24.out.cell 1
 have a2:=A_24.out.cell 2
 have a3:=A_24.out.cell 3
 have a4:=A_24.out.cell 4
 have a5:=A_24.out.cell 5
 have al:=A_24.out.lt
 simp at a0 a1 a2 a3 a4 a5
 have CA:=Lib.hid (pswap_any HMy HD HC L_26.out II.out P_27.out JJ.out y.fr y.pt y.get y.give y.n y.mo HY.out.fr HY.out.pt HY.out.get HY.out.give)
 go_wp2_with fail
 generalize w4.alloc (.cells #[.pointer (some ⟨G1,0,none⟩),.pointer (some ⟨gb1,0,none⟩)] 32)=wa at *
 refine CA.out.mono ?_
 rintro e w7 hsw
 have HNX:=Lib.hid (show ls.length≤100000000∧l.length≤32 from ⟨by have:=II.out.len; omega,JJ.out.len⟩)
 have HSW:=Lib.hid hsw
 clear hsw CA
 clear h0 h1 hl a0 a1 a2 a3 a4 a5 al
 rcases HSW.out with ⟨er,hne,her,rfl,b7⟩ | ⟨G2,M2,gb2,vb2,sa,sk,σ,hσ,hmay,rfl,hL2,hP2,hR2,hg2,hm2,b7⟩
 ·skip
  have A_31:=Lib.hid (A_24.out.below b7 A_24.out.lt)
  have B_32:=Lib.hid (B_25.out.trans (b7.mono B_25.out.size))
  have L_33:=Lib.hid (L_26.out.below b7)
  have P_34:=Lib.hid (P_27.out.below b7)
  have H_35:=Lib.hid (H_28.out.below b7 H_28.out.lt)
  have m_36:=Lib.hid (m_29.out.below b7)
  have q_37:=Lib.hid (q_30.out.below b7)
  have C_38:=Lib.hid (C0.out.below b7 C0.out.lt)
  clear A_24 B_25 L_26 P_27 H_28 m_29 q_30 C0
  have qn:(er != 0)=true:=by simpa using hne
  clear b7 hne her HSW
  have bf:=(Below.refl w7.heap.size w7).alloc (Nat.le_refl _) (.cells #[.pointer none,.pointer none] 32)
  have F0:=Lib.hid (Blk.new w7 #[.pointer none,.pointer none] 32)
  have A_39:=Lib.hid (A_31.out.below bf A_31.out.lt)
  have B_40:=Lib.hid (B_32.out.trans (bf.mono B_32.out.size))
  have L_41:=Lib.hid (L_33.out.below bf)
  have P_42:=Lib.hid (P_34.out.below bf)
  have H_43:=Lib.hid (H_35.out.below bf H_35.out.lt)
  have m_44:=Lib.hid (m_36.out.below bf)
  have q_45:=Lib.hid (q_37.out.below bf)
  have C_46:=Lib.hid (C_38.out.below bf C_38.out.lt)
  clear A_31 B_32 L_33 P_34 H_35 m_36 q_37 C_38
  clear bf
  go_upto_region 6 with fail
  generalize w7.alloc (.cells #[.pointer none,.pointer none] 32)=wb at *
  have hlasts:∀ q ∈ ([(2,(fun v w=>Reads w v 5 ls.length (lnCells ls))),(5,(fun v w=>Reads w v 5 ls.length (lnCells ls))),(11,(fun v w=>Reads w v 7 l.length (ofCells l))),(14,(fun v w=>Reads w v 7 l.length (ofCells l)))]:List (Nat × (Value→World→Prop))),Lasts q.2:=by
   intro q hq
   simp only [List.mem_cons,List.not_mem_nil,or_false] at hq
   rcases hq with rfl | rfl | rfl | rfl
   ·exact fun v w w' h k=>h.below k
   ·exact fun v w w' h k=>h.below k
   ·exact fun v w w' h k=>h.below k
   ·exact fun v w w' h k=>h.below k
  have HL:=Lib.hid hlasts
  clear hlasts
  refine region_fresh (by kernel_rfl) (fun s:Nat→Value=>[(.pointer (some ⟨w2.heap.size,0,none⟩)),(.pointer (some ⟨G,0,none⟩)),s 2,(.pointer (some ⟨w4.heap.size,0,none⟩)),(.pointer (some ⟨G1,0,none⟩)),s 5,(.bool true),(.bool false),(.bool false),(.pointer (some ⟨w2.heap.size,1,none⟩)),(.pointer (some ⟨gb,0,none⟩)),s 11,(.pointer (some ⟨w4.heap.size,1,none⟩)),(.pointer (some ⟨gb1,0,none⟩)),s 14,(.bool true),(.bool false),(.bool false)])
   (Got wb [(2,(fun v w=>Reads w v 5 ls.length (lnCells ls))),(5,(fun v w=>Reads w v 5 ls.length (lnCells ls))),(11,(fun v w=>Reads w v 7 l.length (ofCells l))),(14,(fun v w=>Reads w v 7 l.length (ofCells l)))]) (by kernel_rfl) (fun _=>undef) (Got.start _ _ _) ?_
  intro AF hAF
  simp only [List.toList_toArray,puts,Act.put,List.getD_cons_zero,List.getD_cons_succ,List.setIfInBounds_toArray,List.set_cons_succ,List.set_cons_zero] at hAF
  have hAF2:_=AF:=funext hAF
  subst hAF2
  clear hAF
  refine ⟨?_,?_⟩
  ·simp only [List.toList_toArray,EachF]
   refine ⟨?_,?_,?_,?_,?_,?_,?_,?_,?_,?_,?_,?_,?_,?_,?_,?_,?_,?_,trivial⟩
   ·intro s D w' hD hW hC hI
    have hS:=hI.below
    refine .inl ⟨s,fun _ _ _=>rfl,?_⟩
    with_reducible refine OpTo.plain ?_ ?_
    exact rfl
    have hl0:=Nat.lt_of_lt_of_le H_43.out.lt hS.size
    have HS:=Lib.hid (hI.step HL.out (Below.refl _ _) (k:=0) (by intro q hq; simp only [List.mem_cons,List.not_mem_nil,or_false] at hq; rcases hq with rfl | rfl | rfl | rfl <;> first | exact (show (2:Nat)≠0 by decide) | exact (show (5:Nat)≠0 by decide) | exact (show (11:Nat)≠0 by decide) | exact (show (14:Nat)≠0 by decide)))
    clear hI hS hC hW hD
    go_wp2_with fail
    all_goals first | exact HS.out | exact ⟨rfl,HS.out⟩ | rfl
   ·intro s D w' hD hW hC hI
    have hS:=hI.below
    refine .inl ⟨s,fun _ _ _=>rfl,?_⟩
    with_reducible refine OpTo.plain ?_ ?_
    exact rfl
    have hl0:=Nat.lt_of_lt_of_le H_43.out.lt hS.size
    have d0_0:=(H_43.out.below hS H_43.out.lt).cell 0
    have d0_1:=(H_43.out.below hS H_43.out.lt).cell 1
    simp at d0_0 d0_1
    have HS:=Lib.hid (hI.step HL.out (Below.refl _ _) (k:=1) (by intro q hq; simp only [List.mem_cons,List.not_mem_nil,or_false] at hq; rcases hq with rfl | rfl | rfl | rfl <;> first | exact (show (2:Nat)≠1 by decide) | exact (show (5:Nat)≠1 by decide) | exact (show (11:Nat)≠1 by decide) | exact (show (14:Nat)≠1 by decide)))
    clear hI hS hC hW hD
    go_wp2_with fail
    all_goals first | exact HS.out | exact ⟨rfl,HS.out⟩ | rfl
   ·intro s D w' hD hW hC hI
    have hS:=hI.below
    have HI:=Lib.hid hI
    have HCl:=Lib.hid hC
    have HD:=Lib.hid hD
    have HC:=Lib.hid (plines_any (L_41.out.below hS) II.out)
    refine .inr ?_
    with_reducible refine OpGets.plain ?_ ?_
    exact rfl
    clear hI hS hC hW hD
    go_wp2_with fail
    refine HC.out.mono ?_
    rintro e w'' ⟨v,rfl,hv,hb2⟩
    refine ⟨v,rfl,updV s 2 v,vals_put _ (fun s:Nat→Value=>[(.pointer (some ⟨w2.heap.size,0,none⟩)),(.pointer (some ⟨G,0,none⟩)),s 2,(.pointer (some ⟨w4.heap.size,0,none⟩)),(.pointer (some ⟨G1,0,none⟩)),s 5,(.bool true),(.bool false),(.bool false),(.pointer (some ⟨w2.heap.size,1,none⟩)),(.pointer (some ⟨gb,0,none⟩)),s 11,(.pointer (some ⟨w4.heap.size,1,none⟩)),(.pointer (some ⟨gb1,0,none⟩)),s 14,(.bool true),(.bool false),(.bool false)]) s 2 v HCl.out HD.out ?_,rfl,HI.out.put HL.out hb2 ?_⟩
    ·intro j hj
     match j,hj with
     | 0,_=>exact .inr rfl
     | 1,_=>exact .inr rfl
     | 2,_=>exact .inl (.inl rfl)
     | 3,_=>exact .inr rfl
     | 4,_=>exact .inr rfl
     | 5,_=>exact .inr rfl
     | 6,_=>exact .inr rfl
     | 7,_=>exact .inr rfl
     | 8,_=>exact .inr rfl
     | 9,_=>exact .inr rfl
     | 10,_=>exact .inr rfl
     | 11,_=>exact .inr rfl
     | 12,_=>exact .inr rfl
     | 13,_=>exact .inr rfl
     | 14,_=>exact .inr rfl
     | 15,_=>exact .inr rfl
     | 16,_=>exact .inr rfl
     | 17,_=>exact .inr rfl
     | j + 18,_=>exact .inr rfl
    ·intro q hq he
     simp only [List.mem_cons,List.not_mem_nil,or_false] at hq
     rcases hq with rfl | rfl | rfl | rfl <;> first | exact hv.reads HNX.out.1 | exact absurd (show (5:Nat)=2 from he) (by decide) | exact absurd (show (11:Nat)=2 from he) (by decide) | exact absurd (show (14:Nat)=2 from he) (by decide)
   ·intro s D w' hD hW hC hI
    have hS:=hI.below
    refine .inl ⟨s,fun _ _ _=>rfl,?_⟩
    with_reducible refine OpTo.plain ?_ ?_
    exact rfl
    have hl0:=Nat.lt_of_lt_of_le C_46.out.lt hS.size
    have HS:=Lib.hid (hI.step HL.out (Below.refl _ _) (k:=3) (by intro q hq; simp only [List.mem_cons,List.not_mem_nil,or_false] at hq; rcases hq with rfl | rfl | rfl | rfl <;> first | exact (show (2:Nat)≠3 by decide) | exact (show (5:Nat)≠3 by decide) | exact (show (11:Nat)≠3 by decide) | exact (show (14:Nat)≠3 by decide)))
    clear hI hS hC hW hD
    go_wp2_with fail
    all_goals first | exact HS.out | exact ⟨rfl,HS.out⟩ | rfl
   ·intro s D w' hD hW hC hI
    have hS:=hI.below
    refine .inl ⟨s,fun _ _ _=>rfl,?_⟩
    with_reducible refine OpTo.plain ?_ ?_
    exact rfl
    have hl0:=Nat.lt_of_lt_of_le C_46.out.lt hS.size
    have d0_0:=(C_46.out.below hS C_46.out.lt).cell 0
    have d0_1:=(C_46.out.below hS C_46.out.lt).cell 1
    simp at d0_0 d0_1
    have HS:=Lib.hid (hI.step HL.out (Below.refl _ _) (k:=4) (by intro q hq; simp only [List.mem_cons,List.not_mem_nil,or_false] at hq; rcases hq with rfl | rfl | rfl | rfl <;> first | exact (show (2:Nat)≠4 by decide) | exact (show (5:Nat)≠4 by decide) | exact (show (11:Nat)≠4 by decide) | exact (show (14:Nat)≠4 by decide)))
    clear hI hS hC hW hD
    go_wp2_with fail
    all_goals first | exact HS.out | exact ⟨rfl,HS.out⟩ | rfl
   ·intro s D w' hD hW hC hI
    have hS:=hI.below
    have HI:=Lib.hid hI
    have HCl:=Lib.hid hC
    have HD:=Lib.hid hD
    have HC:=Lib.hid (plines_any (m_44.out.below hS) II.out)
    refine .inr ?_
    with_reducible refine OpGets.plain ?_ ?_
    exact rfl
    clear hI hS hC hW hD
    go_wp2_with fail
    refine HC.out.mono ?_
    rintro e w'' ⟨v,rfl,hv,hb2⟩
    refine ⟨v,rfl,updV s 5 v,vals_put _ (fun s:Nat→Value=>[(.pointer (some ⟨w2.heap.size,0,none⟩)),(.pointer (some ⟨G,0,none⟩)),s 2,(.pointer (some ⟨w4.heap.size,0,none⟩)),(.pointer (some ⟨G1,0,none⟩)),s 5,(.bool true),(.bool false),(.bool false),(.pointer (some ⟨w2.heap.size,1,none⟩)),(.pointer (some ⟨gb,0,none⟩)),s 11,(.pointer (some ⟨w4.heap.size,1,none⟩)),(.pointer (some ⟨gb1,0,none⟩)),s 14,(.bool true),(.bool false),(.bool false)]) s 5 v HCl.out HD.out ?_,rfl,HI.out.put HL.out hb2 ?_⟩
    ·intro j hj
     match j,hj with
     | 0,_=>exact .inr rfl
     | 1,_=>exact .inr rfl
     | 2,_=>exact .inr rfl
     | 3,_=>exact .inr rfl
     | 4,_=>exact .inr rfl
     | 5,_=>exact .inl (.inl rfl)
     | 6,_=>exact .inr rfl
     | 7,_=>exact .inr rfl
     | 8,_=>exact .inr rfl
     | 9,_=>exact .inr rfl
     | 10,_=>exact .inr rfl
     | 11,_=>exact .inr rfl
     | 12,_=>exact .inr rfl
     | 13,_=>exact .inr rfl
     | 14,_=>exact .inr rfl
     | 15,_=>exact .inr rfl
     | 16,_=>exact .inr rfl
     | 17,_=>exact .inr rfl
     | j + 18,_=>exact .inr rfl
    ·intro q hq he
     simp only [List.mem_cons,List.not_mem_nil,or_false] at hq
     rcases hq with rfl | rfl | rfl | rfl <;> first | exact hv.reads HNX.out.1 | exact absurd (show (2:Nat)=5 from he) (by decide) | exact absurd (show (11:Nat)=5 from he) (by decide) | exact absurd (show (14:Nat)=5 from he) (by decide)
   ·intro s D w' hD hW hC hI
    have hS:=hI.below
    refine .inl ⟨s,fun _ _ _=>rfl,?_⟩
    with_reducible refine OpTo.plain ?_ ?_
    exact rfl
    have hP2:D 2=true:=need_waited hC hW (by kernel_rfl)
    have hq2:=hI.at (2,(fun v w=>Reads w v 5 ls.length (lnCells ls))) (by simp) hP2
    dsimp only at hq2
    have hP5:D 5=true:=need_waited hC hW (by kernel_rfl)
    have hq5:=hI.at (5,(fun v w=>Reads w v 5 ls.length (lnCells ls))) (by simp) hP5
    dsimp only at hq5
    have HI:=Lib.hid hI
    have HC:=Lib.hid ((by have q:=SameLines_any hq2 hq5; rw [decide_eq_true rfl] at q; exact q:Calls Tryz.prog 20 #[s 2,s 5] w' fun e w''=>e=.returned (.bool true)∧Below w'.heap.size w' w''))
    clear hI hS hC hW hD hP2 hq2 hP5 hq5
    go_wp2_with fail
    refine HC.out.mono ?_
    rintro e w'' ⟨rfl,hb2⟩
    exact ⟨rfl,HI.out.step HL.out hb2 (by intro q hq; simp only [List.mem_cons,List.not_mem_nil,or_false] at hq; rcases hq with rfl | rfl | rfl | rfl <;> first | exact (show (2:Nat)≠6 by decide) | exact (show (5:Nat)≠6 by decide) | exact (show (11:Nat)≠6 by decide) | exact (show (14:Nat)≠6 by decide))⟩
   ·intro s D w' hD hW hC hI
    have hS:=hI.below
    refine .inl ⟨s,fun _ _ _=>rfl,?_⟩
    with_reducible refine OpTo.plain ?_ ?_
    exact rfl
    have HS:=Lib.hid (hI.step HL.out (Below.refl _ _) (k:=7) (by intro q hq; simp only [List.mem_cons,List.not_mem_nil,or_false] at hq; rcases hq with rfl | rfl | rfl | rfl <;> first | exact (show (2:Nat)≠7 by decide) | exact (show (5:Nat)≠7 by decide) | exact (show (11:Nat)≠7 by decide) | exact (show (14:Nat)≠7 by decide)))
    clear hI hS hC hW hD
    go_wp2_with fail
    all_goals first | exact HS.out | exact ⟨rfl,HS.out⟩ | rfl
   ·intro s D w' hD hW hC hI
    have hS:=hI.below
    refine .inl ⟨s,fun _ _ _=>rfl,?_⟩
    with_reducible refine OpTo.plain ?_ ?_
    exact rfl
    have HS:=Lib.hid (hI.step HL.out (Below.refl _ _) (k:=8) (by intro q hq; simp only [List.mem_cons,List.not_mem_nil,or_false] at hq; rcases hq with rfl | rfl | rfl | rfl <;> first | exact (show (2:Nat)≠8 by decide) | exact (show (5:Nat)≠8 by decide) | exact (show (11:Nat)≠8 by decide) | exact (show (14:Nat)≠8 by decide)))
    clear hI hS hC hW hD
    go_wp2_with fail
    all_goals first | exact HS.out | exact ⟨rfl,HS.out⟩ | rfl
   ·intro s D w' hD hW hC hI
    have hS:=hI.below
    refine .inl ⟨s,fun _ _ _=>rfl,?_⟩
    with_reducible refine OpTo.wanted ?_ ?_
    kernel_rfl
    have hl0:=Nat.lt_of_lt_of_le H_43.out.lt hS.size
    have HS:=Lib.hid (hI.step HL.out (Below.refl _ _) (k:=9) (by intro q hq; simp only [List.mem_cons,List.not_mem_nil,or_false] at hq; rcases hq with rfl | rfl | rfl | rfl <;> first | exact (show (2:Nat)≠9 by decide) | exact (show (5:Nat)≠9 by decide) | exact (show (11:Nat)≠9 by decide) | exact (show (14:Nat)≠9 by decide)))
    clear hI hS hC hW hD
    go_wp2_with fail
    all_goals first | exact HS.out | exact ⟨rfl,HS.out⟩ | rfl
   ·intro s D w' hD hW hC hI
    have hS:=hI.below
    refine .inl ⟨s,fun _ _ _=>rfl,?_⟩
    with_reducible refine OpTo.wanted ?_ ?_
    kernel_rfl
    have hl0:=Nat.lt_of_lt_of_le H_43.out.lt hS.size
    have d0_0:=(H_43.out.below hS H_43.out.lt).cell 0
    have d0_1:=(H_43.out.below hS H_43.out.lt).cell 1
    simp at d0_0 d0_1
    have HS:=Lib.hid (hI.step HL.out (Below.refl _ _) (k:=10) (by intro q hq; simp only [List.mem_cons,List.not_mem_nil,or_false] at hq; rcases hq with rfl | rfl | rfl | rfl <;> first | exact (show (2:Nat)≠10 by decide) | exact (show (5:Nat)≠10 by decide) | exact (show (11:Nat)≠10 by decide) | exact (show (14:Nat)≠10 by decide)))
    clear hI hS hC hW hD
    go_wp2_with fail
    all_goals first | exact HS.out | exact ⟨rfl,HS.out⟩ | rfl
   ·intro s D w' hD hW hC hI
    have hS:=hI.below
    have HI:=Lib.hid hI
    have HCl:=Lib.hid hC
    have HD:=Lib.hid hD
    have HC:=Lib.hid (pall_any (P_42.out.below hS) (by have:=HNX.out.2; omega))
    refine .inr ?_
    with_reducible refine OpGets.wanted ?_ ?_
    kernel_rfl
    clear hI hS hC hW hD
    go_wp2_with fail
    refine HC.out.mono ?_
    rintro e w'' ⟨v,rfl,hv,hb2⟩
    refine ⟨v,rfl,updV s 11 v,vals_put _ (fun s:Nat→Value=>[(.pointer (some ⟨w2.heap.size,0,none⟩)),(.pointer (some ⟨G,0,none⟩)),s 2,(.pointer (some ⟨w4.heap.size,0,none⟩)),(.pointer (some ⟨G1,0,none⟩)),s 5,(.bool true),(.bool false),(.bool false),(.pointer (some ⟨w2.heap.size,1,none⟩)),(.pointer (some ⟨gb,0,none⟩)),s 11,(.pointer (some ⟨w4.heap.size,1,none⟩)),(.pointer (some ⟨gb1,0,none⟩)),s 14,(.bool true),(.bool false),(.bool false)]) s 11 v HCl.out HD.out ?_,rfl,HI.out.put HL.out hb2 ?_⟩
    ·intro j hj
     match j,hj with
     | 0,_=>exact .inr rfl
     | 1,_=>exact .inr rfl
     | 2,_=>exact .inr rfl
     | 3,_=>exact .inr rfl
     | 4,_=>exact .inr rfl
     | 5,_=>exact .inr rfl
     | 6,_=>exact .inr rfl
     | 7,_=>exact .inr rfl
     | 8,_=>exact .inr rfl
     | 9,_=>exact .inr rfl
     | 10,_=>exact .inr rfl
     | 11,_=>exact .inl (.inl rfl)
     | 12,_=>exact .inr rfl
     | 13,_=>exact .inr rfl
     | 14,_=>exact .inr rfl
     | 15,_=>exact .inr rfl
     | 16,_=>exact .inr rfl
     | 17,_=>exact .inr rfl
     | j + 18,_=>exact .inr rfl
    ·intro q hq he
     simp only [List.mem_cons,List.not_mem_nil,or_false] at hq
     rcases hq with rfl | rfl | rfl | rfl <;> first | exact hv.reads (by have:=HNX.out.2; omega) | exact absurd (show (2:Nat)=11 from he) (by decide) | exact absurd (show (5:Nat)=11 from he) (by decide) | exact absurd (show (14:Nat)=11 from he) (by decide)
   ·intro s D w' hD hW hC hI
    have hS:=hI.below
    refine .inl ⟨s,fun _ _ _=>rfl,?_⟩
    with_reducible refine OpTo.wanted ?_ ?_
    kernel_rfl
    have hl0:=Nat.lt_of_lt_of_le C_46.out.lt hS.size
    have HS:=Lib.hid (hI.step HL.out (Below.refl _ _) (k:=12) (by intro q hq; simp only [List.mem_cons,List.not_mem_nil,or_false] at hq; rcases hq with rfl | rfl | rfl | rfl <;> first | exact (show (2:Nat)≠12 by decide) | exact (show (5:Nat)≠12 by decide) | exact (show (11:Nat)≠12 by decide) | exact (show (14:Nat)≠12 by decide)))
    clear hI hS hC hW hD
    go_wp2_with fail
    all_goals first | exact HS.out | exact ⟨rfl,HS.out⟩ | rfl
   ·intro s D w' hD hW hC hI
    have hS:=hI.below
    refine .inl ⟨s,fun _ _ _=>rfl,?_⟩
    with_reducible refine OpTo.wanted ?_ ?_
    kernel_rfl
    have hl0:=Nat.lt_of_lt_of_le C_46.out.lt hS.size
    have d0_0:=(C_46.out.below hS C_46.out.lt).cell 0
    have d0_1:=(C_46.out.below hS C_46.out.lt).cell 1
    simp at d0_0 d0_1
    have HS:=Lib.hid (hI.step HL.out (Below.refl _ _) (k:=13) (by intro q hq; simp only [List.mem_cons,List.not_mem_nil,or_false] at hq; rcases hq with rfl | rfl | rfl | rfl <;> first | exact (show (2:Nat)≠13 by decide) | exact (show (5:Nat)≠13 by decide) | exact (show (11:Nat)≠13 by decide) | exact (show (14:Nat)≠13 by decide)))
    clear hI hS hC hW hD
    go_wp2_with fail
    all_goals first | exact HS.out | exact ⟨rfl,HS.out⟩ | rfl
   ·intro s D w' hD hW hC hI
    have hS:=hI.below
    have HI:=Lib.hid hI
    have HCl:=Lib.hid hC
    have HD:=Lib.hid hD
    have HC:=Lib.hid (pall_any (q_45.out.below hS) (by have:=HNX.out.2; omega))
    refine .inr ?_
    with_reducible refine OpGets.wanted ?_ ?_
    kernel_rfl
    clear hI hS hC hW hD
    go_wp2_with fail
    refine HC.out.mono ?_
    rintro e w'' ⟨v,rfl,hv,hb2⟩
    refine ⟨v,rfl,updV s 14 v,vals_put _ (fun s:Nat→Value=>[(.pointer (some ⟨w2.heap.size,0,none⟩)),(.pointer (some ⟨G,0,none⟩)),s 2,(.pointer (some ⟨w4.heap.size,0,none⟩)),(.pointer (some ⟨G1,0,none⟩)),s 5,(.bool true),(.bool false),(.bool false),(.pointer (some ⟨w2.heap.size,1,none⟩)),(.pointer (some ⟨gb,0,none⟩)),s 11,(.pointer (some ⟨w4.heap.size,1,none⟩)),(.pointer (some ⟨gb1,0,none⟩)),s 14,(.bool true),(.bool false),(.bool false)]) s 14 v HCl.out HD.out ?_,rfl,HI.out.put HL.out hb2 ?_⟩
    ·intro j hj
     match j,hj with
     | 0,_=>exact .inr rfl
     | 1,_=>exact .inr rfl
     | 2,_=>exact .inr rfl
     | 3,_=>exact .inr rfl
     | 4,_=>exact .inr rfl
     | 5,_=>exact .inr rfl
     | 6,_=>exact .inr rfl
     | 7,_=>exact .inr rfl
     | 8,_=>exact .inr rfl
     | 9,_=>exact .inr rfl
     | 10,_=>exact .inr rfl
     | 11,_=>exact .inr rfl
     | 12,_=>exact .inr rfl
     | 13,_=>exact .inr rfl
     | 14,_=>exact .inl (.inl rfl)
     | 15,_=>exact .inr rfl
     | 16,_=>exact .inr rfl
     | 17,_=>exact .inr rfl
     | j + 18,_=>exact .inr rfl
    ·intro q hq he
     simp only [List.mem_cons,List.not_mem_nil,or_false] at hq
     rcases hq with rfl | rfl | rfl | rfl <;> first | exact hv.reads (by have:=HNX.out.2; omega) | exact absurd (show (2:Nat)=14 from he) (by decide) | exact absurd (show (5:Nat)=14 from he) (by decide) | exact absurd (show (11:Nat)=14 from he) (by decide)
   ·intro s D w' hD hW hC hI
    have hS:=hI.below
    refine .inl ⟨s,fun _ _ _=>rfl,?_⟩
    with_reducible refine OpTo.wanted ?_ ?_
    kernel_rfl
    have hP11:D 11=true:=need_waited hC hW (by kernel_rfl)
    have hq11:=hI.at (11,(fun v w=>Reads w v 7 l.length (ofCells l))) (by simp) hP11
    dsimp only at hq11
    have hP14:D 14=true:=need_waited hC hW (by kernel_rfl)
    have hq14:=hI.at (14,(fun v w=>Reads w v 7 l.length (ofCells l))) (by simp) hP14
    dsimp only at hq14
    have HI:=Lib.hid hI
    have HC:=Lib.hid ((by have q:=SameOffers_any hq11 hq14; rw [decide_eq_true rfl] at q; exact q:Calls Tryz.prog 22 #[s 11,s 14] w' fun e w''=>e=.returned (.bool true)∧Below w'.heap.size w' w''))
    clear hI hS hC hW hD hP11 hq11 hP14 hq14
    go_wp2_with fail
    refine HC.out.mono ?_
    rintro e w'' ⟨rfl,hb2⟩
    exact ⟨rfl,HI.out.step HL.out hb2 (by intro q hq; simp only [List.mem_cons,List.not_mem_nil,or_false] at hq; rcases hq with rfl | rfl | rfl | rfl <;> first | exact (show (2:Nat)≠15 by decide) | exact (show (5:Nat)≠15 by decide) | exact (show (11:Nat)≠15 by decide) | exact (show (14:Nat)≠15 by decide))⟩
   ·intro s D w' hD hW hC hI
    have hS:=hI.below
    refine .inl ⟨s,fun _ _ _=>rfl,?_⟩
    with_reducible refine OpTo.wanted ?_ ?_
    kernel_rfl
    have HS:=Lib.hid (hI.step HL.out (Below.refl _ _) (k:=16) (by intro q hq; simp only [List.mem_cons,List.not_mem_nil,or_false] at hq; rcases hq with rfl | rfl | rfl | rfl <;> first | exact (show (2:Nat)≠16 by decide) | exact (show (5:Nat)≠16 by decide) | exact (show (11:Nat)≠16 by decide) | exact (show (14:Nat)≠16 by decide)))
    clear hI hS hC hW hD
    go_wp2_with fail
    all_goals first | exact HS.out | exact ⟨rfl,HS.out⟩ | rfl
   ·intro s D w' hD hW hC hI
    have hS:=hI.below
    refine .inl ⟨s,fun _ _ _=>rfl,?_⟩
    with_reducible refine OpTo.plain ?_ ?_
    exact rfl
    have HS:=Lib.hid (hI.step HL.out (Below.refl _ _) (k:=17) (by intro q hq; simp only [List.mem_cons,List.not_mem_nil,or_false] at hq; rcases hq with rfl | rfl | rfl | rfl <;> first | exact (show (2:Nat)≠17 by decide) | exact (show (5:Nat)≠17 by decide) | exact (show (11:Nat)≠17 by decide) | exact (show (14:Nat)≠17 by decide)))
    clear hI hS hC hW hD
    go_wp2_with fail
    all_goals first | exact HS.out | exact ⟨rfl,HS.out⟩ | rfl
  intro s6 D6 w8 hall hI
  have b8:=hI.below
  clear hall hI HL
  have A_47:=Lib.hid (A_39.out.below b8 A_39.out.lt)
  have B_48:=Lib.hid (B_40.out.trans (b8.mono B_40.out.size))
  have L_49:=Lib.hid (L_41.out.below b8)
  have P_50:=Lib.hid (P_42.out.below b8)
  have H_51:=Lib.hid (H_43.out.below b8 H_43.out.lt)
  have m_52:=Lib.hid (m_44.out.below b8)
  have q_53:=Lib.hid (q_45.out.below b8)
  have C_54:=Lib.hid (C_46.out.below b8 C_46.out.lt)
  have F_55:=Lib.hid (F0.out.below b8 F0.out.lt)
  clear A_39 B_40 L_41 P_42 H_43 m_44 q_45 C_46 F0
  clear b8
  go_wp2_with fail
  refine (HLo.out _).mono ?_
  rintro e w_56 ⟨rfl,b⟩
  have A_57:=Lib.hid (A_47.out.below b A_47.out.lt)
  have B_58:=Lib.hid (B_48.out.trans (b.mono B_48.out.size))
  have L_59:=Lib.hid (L_49.out.below b)
  have P_60:=Lib.hid (P_50.out.below b)
  have H_61:=Lib.hid (H_51.out.below b H_51.out.lt)
  have m_62:=Lib.hid (m_52.out.below b)
  have q_63:=Lib.hid (q_53.out.below b)
  have C_64:=Lib.hid (C_54.out.below b C_54.out.lt)
  have F_65:=Lib.hid (F_55.out.below b F_55.out.lt)
  clear A_47 B_48 L_49 P_50 H_51 m_52 q_53 C_54 F_55
  clear b
  go_wp2_with fail
  go_ret
  exact ⟨rfl,B_58.out⟩
 ·skip
  have GE7:=Lib.hid (show wa.heap.size≤w7.heap.size∧wa.heap.size≤G2∧wa.heap.size≤M2∧w4.heap.size<wa.heap.size from ⟨b7.size,hg2,hm2,C0.out.lt⟩)
  have A_66:=Lib.hid (A_24.out.below b7 A_24.out.lt)
  have B_67:=Lib.hid (B_25.out.trans (b7.mono B_25.out.size))
  have L_68:=Lib.hid (L_26.out.below b7)
  have P_69:=Lib.hid (P_27.out.below b7)
  have H_70:=Lib.hid (H_28.out.below b7 H_28.out.lt)
  have m_71:=Lib.hid (m_29.out.below b7)
  have q_72:=Lib.hid (q_30.out.below b7)
  have C_73:=Lib.hid (C0.out.below b7 C0.out.lt)
  clear A_24 B_25 L_26 P_27 H_28 m_29 q_30 C0
  have L2:=Lib.hid hL2
  have P2:=Lib.hid hP2
  have RW:=Lib.hid hR2
  have DN:=Lib.hid (swapF_done II.out JJ.out hσ)
  clear b7 HSW hσ hmay hL2 hP2 hR2 hg2 hm2
  have bf:=(Below.refl w7.heap.size w7).alloc (Nat.le_refl _) (.cells #[.pointer (some ⟨G2,0,none⟩),.pointer (some ⟨gb2,0,none⟩)] 32)
  have F0:=Lib.hid (Blk.new w7 #[.pointer (some ⟨G2,0,none⟩),.pointer (some ⟨gb2,0,none⟩)] 32)
  have A_74:=Lib.hid (A_66.out.below bf A_66.out.lt)
  have B_75:=Lib.hid (B_67.out.trans (bf.mono B_67.out.size))
  have L_76:=Lib.hid (L_68.out.below bf)
  have P_77:=Lib.hid (P_69.out.below bf)
  have H_78:=Lib.hid (H_70.out.below bf H_70.out.lt)
  have m_79:=Lib.hid (m_71.out.below bf)
  have q_80:=Lib.hid (q_72.out.below bf)
  have C_81:=Lib.hid (C_73.out.below bf C_73.out.lt)
  have l_82:=Lib.hid (L2.out.below bf)
  have p_83:=Lib.hid (P2.out.below bf)
  have w_84:=Lib.hid (RW.out.below bf)
  clear A_66 B_67 L_68 P_69 H_70 m_71 q_72 C_73 L2 P2 RW
  clear bf
  go_upto_region 6 with fail
  generalize w7.alloc (.cells #[.pointer (some ⟨G2,0,none⟩),.pointer (some ⟨gb2,0,none⟩)] 32)=wb at *
  have hlasts:∀ q ∈ ([(2,(fun v w=>Reads w v 5 ls.length (lnCells ls))),(5,(fun v w=>Reads w v 5 ls.length (lnCells ls))),(11,(fun v w=>Reads w v 7 l.length (ofCells l))),(14,(fun v w=>Reads w v 7 l.length (ofCells l)))]:List (Nat × (Value→World→Prop))),Lasts q.2:=by
   intro q hq
   simp only [List.mem_cons,List.not_mem_nil,or_false] at hq
   rcases hq with rfl | rfl | rfl | rfl
   ·exact fun v w w' h k=>h.below k
   ·exact fun v w w' h k=>h.below k
   ·exact fun v w w' h k=>h.below k
   ·exact fun v w w' h k=>h.below k
  have HL:=Lib.hid hlasts
  clear hlasts
  refine region_fresh (by kernel_rfl) (fun s:Nat→Value=>[(.pointer (some ⟨w2.heap.size,0,none⟩)),(.pointer (some ⟨G,0,none⟩)),s 2,(.pointer (some ⟨w4.heap.size,0,none⟩)),(.pointer (some ⟨G1,0,none⟩)),s 5,(.bool true),(.bool false),(.bool false),(.pointer (some ⟨w2.heap.size,1,none⟩)),(.pointer (some ⟨gb,0,none⟩)),s 11,(.pointer (some ⟨w4.heap.size,1,none⟩)),(.pointer (some ⟨gb1,0,none⟩)),s 14,(.bool true),(.bool false),(.bool false)])
   (Got wb [(2,(fun v w=>Reads w v 5 ls.length (lnCells ls))),(5,(fun v w=>Reads w v 5 ls.length (lnCells ls))),(11,(fun v w=>Reads w v 7 l.length (ofCells l))),(14,(fun v w=>Reads w v 7 l.length (ofCells l)))]) (by kernel_rfl) (fun _=>undef) (Got.start _ _ _) ?_
  intro AF hAF
  simp only [List.toList_toArray,puts,Act.put,List.getD_cons_zero,List.getD_cons_succ,List.setIfInBounds_toArray,List.set_cons_succ,List.set_cons_zero] at hAF
  have hAF2:_=AF:=funext hAF
  subst hAF2
  clear hAF
  refine ⟨?_,?_⟩
  ·simp only [List.toList_toArray,EachF]
   refine ⟨?_,?_,?_,?_,?_,?_,?_,?_,?_,?_,?_,?_,?_,?_,?_,?_,?_,?_,trivial⟩
   ·intro s D w' hD hW hC hI
    have hS:=hI.below
    refine .inl ⟨s,fun _ _ _=>rfl,?_⟩
    with_reducible refine OpTo.plain ?_ ?_
    exact rfl
    have hl0:=Nat.lt_of_lt_of_le H_78.out.lt hS.size
    have HS:=Lib.hid (hI.step HL.out (Below.refl _ _) (k:=0) (by intro q hq; simp only [List.mem_cons,List.not_mem_nil,or_false] at hq; rcases hq with rfl | rfl | rfl | rfl <;> first | exact (show (2:Nat)≠0 by decide) | exact (show (5:Nat)≠0 by decide) | exact (show (11:Nat)≠0 by decide) | exact (show (14:Nat)≠0 by decide)))
    clear hI hS hC hW hD
    go_wp2_with fail
    all_goals first | exact HS.out | exact ⟨rfl,HS.out⟩ | rfl
   ·intro s D w' hD hW hC hI
    have hS:=hI.below
    refine .inl ⟨s,fun _ _ _=>rfl,?_⟩
    with_reducible refine OpTo.plain ?_ ?_
    exact rfl
    have hl0:=Nat.lt_of_lt_of_le H_78.out.lt hS.size
    have d0_0:=(H_78.out.below hS H_78.out.lt).cell 0
    have d0_1:=(H_78.out.below hS H_78.out.lt).cell 1
    simp at d0_0 d0_1
    have HS:=Lib.hid (hI.step HL.out (Below.refl _ _) (k:=1) (by intro q hq; simp only [List.mem_cons,List.not_mem_nil,or_false] at hq; rcases hq with rfl | rfl | rfl | rfl <;> first | exact (show (2:Nat)≠1 by decide) | exact (show (5:Nat)≠1 by decide) | exact (show (11:Nat)≠1 by decide) | exact (show (14:Nat)≠1 by decide)))
    clear hI hS hC hW hD
    go_wp2_with fail
    all_goals first | exact HS.out | exact ⟨rfl,HS.out⟩ | rfl
   ·intro s D w' hD hW hC hI
    have hS:=hI.below
    have HI:=Lib.hid hI
    have HCl:=Lib.hid hC
    have HD:=Lib.hid hD
    have HC:=Lib.hid (plines_any (L_76.out.below hS) II.out)
    refine .inr ?_
    with_reducible refine OpGets.plain ?_ ?_
    exact rfl
    clear hI hS hC hW hD
    go_wp2_with fail
    refine HC.out.mono ?_
    rintro e w'' ⟨v,rfl,hv,hb2⟩
    refine ⟨v,rfl,updV s 2 v,vals_put _ (fun s:Nat→Value=>[(.pointer (some ⟨w2.heap.size,0,none⟩)),(.pointer (some ⟨G,0,none⟩)),s 2,(.pointer (some ⟨w4.heap.size,0,none⟩)),(.pointer (some ⟨G1,0,none⟩)),s 5,(.bool true),(.bool false),(.bool false),(.pointer (some ⟨w2.heap.size,1,none⟩)),(.pointer (some ⟨gb,0,none⟩)),s 11,(.pointer (some ⟨w4.heap.size,1,none⟩)),(.pointer (some ⟨gb1,0,none⟩)),s 14,(.bool true),(.bool false),(.bool false)]) s 2 v HCl.out HD.out ?_,rfl,HI.out.put HL.out hb2 ?_⟩
    ·intro j hj
     match j,hj with
     | 0,_=>exact .inr rfl
     | 1,_=>exact .inr rfl
     | 2,_=>exact .inl (.inl rfl)
     | 3,_=>exact .inr rfl
     | 4,_=>exact .inr rfl
     | 5,_=>exact .inr rfl
     | 6,_=>exact .inr rfl
     | 7,_=>exact .inr rfl
     | 8,_=>exact .inr rfl
     | 9,_=>exact .inr rfl
     | 10,_=>exact .inr rfl
     | 11,_=>exact .inr rfl
     | 12,_=>exact .inr rfl
     | 13,_=>exact .inr rfl
     | 14,_=>exact .inr rfl
     | 15,_=>exact .inr rfl
     | 16,_=>exact .inr rfl
     | 17,_=>exact .inr rfl
     | j + 18,_=>exact .inr rfl
    ·intro q hq he
     simp only [List.mem_cons,List.not_mem_nil,or_false] at hq
     rcases hq with rfl | rfl | rfl | rfl <;> first | exact hv.reads HNX.out.1 | exact absurd (show (5:Nat)=2 from he) (by decide) | exact absurd (show (11:Nat)=2 from he) (by decide) | exact absurd (show (14:Nat)=2 from he) (by decide)
   ·intro s D w' hD hW hC hI
    have hS:=hI.below
    refine .inl ⟨s,fun _ _ _=>rfl,?_⟩
    with_reducible refine OpTo.plain ?_ ?_
    exact rfl
    have hl0:=Nat.lt_of_lt_of_le C_81.out.lt hS.size
    have HS:=Lib.hid (hI.step HL.out (Below.refl _ _) (k:=3) (by intro q hq; simp only [List.mem_cons,List.not_mem_nil,or_false] at hq; rcases hq with rfl | rfl | rfl | rfl <;> first | exact (show (2:Nat)≠3 by decide) | exact (show (5:Nat)≠3 by decide) | exact (show (11:Nat)≠3 by decide) | exact (show (14:Nat)≠3 by decide)))
    clear hI hS hC hW hD
    go_wp2_with fail
    all_goals first | exact HS.out | exact ⟨rfl,HS.out⟩ | rfl
   ·intro s D w' hD hW hC hI
    have hS:=hI.below
    refine .inl ⟨s,fun _ _ _=>rfl,?_⟩
    with_reducible refine OpTo.plain ?_ ?_
    exact rfl
    have hl0:=Nat.lt_of_lt_of_le C_81.out.lt hS.size
    have d0_0:=(C_81.out.below hS C_81.out.lt).cell 0
    have d0_1:=(C_81.out.below hS C_81.out.lt).cell 1
    simp at d0_0 d0_1
    have HS:=Lib.hid (hI.step HL.out (Below.refl _ _) (k:=4) (by intro q hq; simp only [List.mem_cons,List.not_mem_nil,or_false] at hq; rcases hq with rfl | rfl | rfl | rfl <;> first | exact (show (2:Nat)≠4 by decide) | exact (show (5:Nat)≠4 by decide) | exact (show (11:Nat)≠4 by decide) | exact (show (14:Nat)≠4 by decide)))
    clear hI hS hC hW hD
    go_wp2_with fail
    all_goals first | exact HS.out | exact ⟨rfl,HS.out⟩ | rfl
   ·intro s D w' hD hW hC hI
    have hS:=hI.below
    have HI:=Lib.hid hI
    have HCl:=Lib.hid hC
    have HD:=Lib.hid hD
    have HC:=Lib.hid (plines_any (m_79.out.below hS) II.out)
    refine .inr ?_
    with_reducible refine OpGets.plain ?_ ?_
    exact rfl
    clear hI hS hC hW hD
    go_wp2_with fail
    refine HC.out.mono ?_
    rintro e w'' ⟨v,rfl,hv,hb2⟩
    refine ⟨v,rfl,updV s 5 v,vals_put _ (fun s:Nat→Value=>[(.pointer (some ⟨w2.heap.size,0,none⟩)),(.pointer (some ⟨G,0,none⟩)),s 2,(.pointer (some ⟨w4.heap.size,0,none⟩)),(.pointer (some ⟨G1,0,none⟩)),s 5,(.bool true),(.bool false),(.bool false),(.pointer (some ⟨w2.heap.size,1,none⟩)),(.pointer (some ⟨gb,0,none⟩)),s 11,(.pointer (some ⟨w4.heap.size,1,none⟩)),(.pointer (some ⟨gb1,0,none⟩)),s 14,(.bool true),(.bool false),(.bool false)]) s 5 v HCl.out HD.out ?_,rfl,HI.out.put HL.out hb2 ?_⟩
    ·intro j hj
     match j,hj with
     | 0,_=>exact .inr rfl
     | 1,_=>exact .inr rfl
     | 2,_=>exact .inr rfl
     | 3,_=>exact .inr rfl
     | 4,_=>exact .inr rfl
     | 5,_=>exact .inl (.inl rfl)
     | 6,_=>exact .inr rfl
     | 7,_=>exact .inr rfl
     | 8,_=>exact .inr rfl
     | 9,_=>exact .inr rfl
     | 10,_=>exact .inr rfl
     | 11,_=>exact .inr rfl
     | 12,_=>exact .inr rfl
     | 13,_=>exact .inr rfl
     | 14,_=>exact .inr rfl
     | 15,_=>exact .inr rfl
     | 16,_=>exact .inr rfl
     | 17,_=>exact .inr rfl
     | j + 18,_=>exact .inr rfl
    ·intro q hq he
     simp only [List.mem_cons,List.not_mem_nil,or_false] at hq
     rcases hq with rfl | rfl | rfl | rfl <;> first | exact hv.reads HNX.out.1 | exact absurd (show (2:Nat)=5 from he) (by decide) | exact absurd (show (11:Nat)=5 from he) (by decide) | exact absurd (show (14:Nat)=5 from he) (by decide)
   ·intro s D w' hD hW hC hI
    have hS:=hI.below
    refine .inl ⟨s,fun _ _ _=>rfl,?_⟩
    with_reducible refine OpTo.plain ?_ ?_
    exact rfl
    have hP2:D 2=true:=need_waited hC hW (by kernel_rfl)
    have hq2:=hI.at (2,(fun v w=>Reads w v 5 ls.length (lnCells ls))) (by simp) hP2
    dsimp only at hq2
    have hP5:D 5=true:=need_waited hC hW (by kernel_rfl)
    have hq5:=hI.at (5,(fun v w=>Reads w v 5 ls.length (lnCells ls))) (by simp) hP5
    dsimp only at hq5
    have HI:=Lib.hid hI
    have HC:=Lib.hid ((by have q:=SameLines_any hq2 hq5; rw [decide_eq_true rfl] at q; exact q:Calls Tryz.prog 20 #[s 2,s 5] w' fun e w''=>e=.returned (.bool true)∧Below w'.heap.size w' w''))
    clear hI hS hC hW hD hP2 hq2 hP5 hq5
    go_wp2_with fail
    refine HC.out.mono ?_
    rintro e w'' ⟨rfl,hb2⟩
    exact ⟨rfl,HI.out.step HL.out hb2 (by intro q hq; simp only [List.mem_cons,List.not_mem_nil,or_false] at hq; rcases hq with rfl | rfl | rfl | rfl <;> first | exact (show (2:Nat)≠6 by decide) | exact (show (5:Nat)≠6 by decide) | exact (show (11:Nat)≠6 by decide) | exact (show (14:Nat)≠6 by decide))⟩
   ·intro s D w' hD hW hC hI
    have hS:=hI.below
    refine .inl ⟨s,fun _ _ _=>rfl,?_⟩
    with_reducible refine OpTo.plain ?_ ?_
    exact rfl
    have HS:=Lib.hid (hI.step HL.out (Below.refl _ _) (k:=7) (by intro q hq; simp only [List.mem_cons,List.not_mem_nil,or_false] at hq; rcases hq with rfl | rfl | rfl | rfl <;> first | exact (show (2:Nat)≠7 by decide) | exact (show (5:Nat)≠7 by decide) | exact (show (11:Nat)≠7 by decide) | exact (show (14:Nat)≠7 by decide)))
    clear hI hS hC hW hD
    go_wp2_with fail
    all_goals first | exact HS.out | exact ⟨rfl,HS.out⟩ | rfl
   ·intro s D w' hD hW hC hI
    have hS:=hI.below
    refine .inl ⟨s,fun _ _ _=>rfl,?_⟩
    with_reducible refine OpTo.plain ?_ ?_
    exact rfl
    have HS:=Lib.hid (hI.step HL.out (Below.refl _ _) (k:=8) (by intro q hq; simp only [List.mem_cons,List.not_mem_nil,or_false] at hq; rcases hq with rfl | rfl | rfl | rfl <;> first | exact (show (2:Nat)≠8 by decide) | exact (show (5:Nat)≠8 by decide) | exact (show (11:Nat)≠8 by decide) | exact (show (14:Nat)≠8 by decide)))
    clear hI hS hC hW hD
    go_wp2_with fail
    all_goals first | exact HS.out | exact ⟨rfl,HS.out⟩ | rfl
   ·intro s D w' hD hW hC hI
    have hS:=hI.below
    refine .inl ⟨s,fun _ _ _=>rfl,?_⟩
    with_reducible refine OpTo.wanted ?_ ?_
    kernel_rfl
    have hl0:=Nat.lt_of_lt_of_le H_78.out.lt hS.size
    have HS:=Lib.hid (hI.step HL.out (Below.refl _ _) (k:=9) (by intro q hq; simp only [List.mem_cons,List.not_mem_nil,or_false] at hq; rcases hq with rfl | rfl | rfl | rfl <;> first | exact (show (2:Nat)≠9 by decide) | exact (show (5:Nat)≠9 by decide) | exact (show (11:Nat)≠9 by decide) | exact (show (14:Nat)≠9 by decide)))
    clear hI hS hC hW hD
    go_wp2_with fail
    all_goals first | exact HS.out | exact ⟨rfl,HS.out⟩ | rfl
   ·intro s D w' hD hW hC hI
    have hS:=hI.below
    refine .inl ⟨s,fun _ _ _=>rfl,?_⟩
    with_reducible refine OpTo.wanted ?_ ?_
    kernel_rfl
    have hl0:=Nat.lt_of_lt_of_le H_78.out.lt hS.size
    have d0_0:=(H_78.out.below hS H_78.out.lt).cell 0
    have d0_1:=(H_78.out.below hS H_78.out.lt).cell 1
    simp at d0_0 d0_1
    have HS:=Lib.hid (hI.step HL.out (Below.refl _ _) (k:=10) (by intro q hq; simp only [List.mem_cons,List.not_mem_nil,or_false] at hq; rcases hq with rfl | rfl | rfl | rfl <;> first | exact (show (2:Nat)≠10 by decide) | exact (show (5:Nat)≠10 by decide) | exact (show (11:Nat)≠10 by decide) | exact (show (14:Nat)≠10 by decide)))
    clear hI hS hC hW hD
    go_wp2_with fail
    all_goals first | exact HS.out | exact ⟨rfl,HS.out⟩ | rfl
   ·intro s D w' hD hW hC hI
    have hS:=hI.below
    have HI:=Lib.hid hI
    have HCl:=Lib.hid hC
    have HD:=Lib.hid hD
    have HC:=Lib.hid (pall_any (P_77.out.below hS) (by have:=HNX.out.2; omega))
    refine .inr ?_
    with_reducible refine OpGets.wanted ?_ ?_
    kernel_rfl
    clear hI hS hC hW hD
    go_wp2_with fail
    refine HC.out.mono ?_
    rintro e w'' ⟨v,rfl,hv,hb2⟩
    refine ⟨v,rfl,updV s 11 v,vals_put _ (fun s:Nat→Value=>[(.pointer (some ⟨w2.heap.size,0,none⟩)),(.pointer (some ⟨G,0,none⟩)),s 2,(.pointer (some ⟨w4.heap.size,0,none⟩)),(.pointer (some ⟨G1,0,none⟩)),s 5,(.bool true),(.bool false),(.bool false),(.pointer (some ⟨w2.heap.size,1,none⟩)),(.pointer (some ⟨gb,0,none⟩)),s 11,(.pointer (some ⟨w4.heap.size,1,none⟩)),(.pointer (some ⟨gb1,0,none⟩)),s 14,(.bool true),(.bool false),(.bool false)]) s 11 v HCl.out HD.out ?_,rfl,HI.out.put HL.out hb2 ?_⟩
    ·intro j hj
     match j,hj with
     | 0,_=>exact .inr rfl
     | 1,_=>exact .inr rfl
     | 2,_=>exact .inr rfl
     | 3,_=>exact .inr rfl
     | 4,_=>exact .inr rfl
     | 5,_=>exact .inr rfl
     | 6,_=>exact .inr rfl
     | 7,_=>exact .inr rfl
     | 8,_=>exact .inr rfl
     | 9,_=>exact .inr rfl
     | 10,_=>exact .inr rfl
     | 11,_=>exact .inl (.inl rfl)
     | 12,_=>exact .inr rfl
     | 13,_=>exact .inr rfl
     | 14,_=>exact .inr rfl
     | 15,_=>exact .inr rfl
     | 16,_=>exact .inr rfl
     | 17,_=>exact .inr rfl
     | j + 18,_=>exact .inr rfl
    ·intro q hq he
     simp only [List.mem_cons,List.not_mem_nil,or_false] at hq
     rcases hq with rfl | rfl | rfl | rfl <;> first | exact hv.reads (by have:=HNX.out.2; omega) | exact absurd (show (2:Nat)=11 from he) (by decide) | exact absurd (show (5:Nat)=11 from he) (by decide) | exact absurd (show (14:Nat)=11 from he) (by decide)
   ·intro s D w' hD hW hC hI
    have hS:=hI.below
    refine .inl ⟨s,fun _ _ _=>rfl,?_⟩
    with_reducible refine OpTo.wanted ?_ ?_
    kernel_rfl
    have hl0:=Nat.lt_of_lt_of_le C_81.out.lt hS.size
    have HS:=Lib.hid (hI.step HL.out (Below.refl _ _) (k:=12) (by intro q hq; simp only [List.mem_cons,List.not_mem_nil,or_false] at hq; rcases hq with rfl | rfl | rfl | rfl <;> first | exact (show (2:Nat)≠12 by decide) | exact (show (5:Nat)≠12 by decide) | exact (show (11:Nat)≠12 by decide) | exact (show (14:Nat)≠12 by decide)))
    clear hI hS hC hW hD
    go_wp2_with fail
    all_goals first | exact HS.out | exact ⟨rfl,HS.out⟩ | rfl
   ·intro s D w' hD hW hC hI
    have hS:=hI.below
    refine .inl ⟨s,fun _ _ _=>rfl,?_⟩
    with_reducible refine OpTo.wanted ?_ ?_
    kernel_rfl
    have hl0:=Nat.lt_of_lt_of_le C_81.out.lt hS.size
    have d0_0:=(C_81.out.below hS C_81.out.lt).cell 0
    have d0_1:=(C_81.out.below hS C_81.out.lt).cell 1
    simp at d0_0 d0_1
    have HS:=Lib.hid (hI.step HL.out (Below.refl _ _) (k:=13) (by intro q hq; simp only [List.mem_cons,List.not_mem_nil,or_false] at hq; rcases hq with rfl | rfl | rfl | rfl <;> first | exact (show (2:Nat)≠13 by decide) | exact (show (5:Nat)≠13 by decide) | exact (show (11:Nat)≠13 by decide) | exact (show (14:Nat)≠13 by decide)))
    clear hI hS hC hW hD
    go_wp2_with fail
    all_goals first | exact HS.out | exact ⟨rfl,HS.out⟩ | rfl
   ·intro s D w' hD hW hC hI
    have hS:=hI.below
    have HI:=Lib.hid hI
    have HCl:=Lib.hid hC
    have HD:=Lib.hid hD
    have HC:=Lib.hid (pall_any (q_80.out.below hS) (by have:=HNX.out.2; omega))
    refine .inr ?_
    with_reducible refine OpGets.wanted ?_ ?_
    kernel_rfl
    clear hI hS hC hW hD
    go_wp2_with fail
    refine HC.out.mono ?_
    rintro e w'' ⟨v,rfl,hv,hb2⟩
    refine ⟨v,rfl,updV s 14 v,vals_put _ (fun s:Nat→Value=>[(.pointer (some ⟨w2.heap.size,0,none⟩)),(.pointer (some ⟨G,0,none⟩)),s 2,(.pointer (some ⟨w4.heap.size,0,none⟩)),(.pointer (some ⟨G1,0,none⟩)),s 5,(.bool true),(.bool false),(.bool false),(.pointer (some ⟨w2.heap.size,1,none⟩)),(.pointer (some ⟨gb,0,none⟩)),s 11,(.pointer (some ⟨w4.heap.size,1,none⟩)),(.pointer (some ⟨gb1,0,none⟩)),s 14,(.bool true),(.bool false),(.bool false)]) s 14 v HCl.out HD.out ?_,rfl,HI.out.put HL.out hb2 ?_⟩
    ·intro j hj
     match j,hj with
     | 0,_=>exact .inr rfl
     | 1,_=>exact .inr rfl
     | 2,_=>exact .inr rfl
     | 3,_=>exact .inr rfl
     | 4,_=>exact .inr rfl
     | 5,_=>exact .inr rfl
     | 6,_=>exact .inr rfl
     | 7,_=>exact .inr rfl
     | 8,_=>exact .inr rfl
     | 9,_=>exact .inr rfl
     | 10,_=>exact .inr rfl
     | 11,_=>exact .inr rfl
     | 12,_=>exact .inr rfl
     | 13,_=>exact .inr rfl
     | 14,_=>exact .inl (.inl rfl)
     | 15,_=>exact .inr rfl
     | 16,_=>exact .inr rfl
     | 17,_=>exact .inr rfl
     | j + 18,_=>exact .inr rfl
    ·intro q hq he
     simp only [List.mem_cons,List.not_mem_nil,or_false] at hq
     rcases hq with rfl | rfl | rfl | rfl <;> first | exact hv.reads (by have:=HNX.out.2; omega) | exact absurd (show (2:Nat)=14 from he) (by decide) | exact absurd (show (5:Nat)=14 from he) (by decide) | exact absurd (show (11:Nat)=14 from he) (by decide)
   ·intro s D w' hD hW hC hI
    have hS:=hI.below
    refine .inl ⟨s,fun _ _ _=>rfl,?_⟩
    with_reducible refine OpTo.wanted ?_ ?_
    kernel_rfl
    have hP11:D 11=true:=need_waited hC hW (by kernel_rfl)
    have hq11:=hI.at (11,(fun v w=>Reads w v 7 l.length (ofCells l))) (by simp) hP11
    dsimp only at hq11
    have hP14:D 14=true:=need_waited hC hW (by kernel_rfl)
    have hq14:=hI.at (14,(fun v w=>Reads w v 7 l.length (ofCells l))) (by simp) hP14
    dsimp only at hq14
    have HI:=Lib.hid hI
    have HC:=Lib.hid ((by have q:=SameOffers_any hq11 hq14; rw [decide_eq_true rfl] at q; exact q:Calls Tryz.prog 22 #[s 11,s 14] w' fun e w''=>e=.returned (.bool true)∧Below w'.heap.size w' w''))
    clear hI hS hC hW hD hP11 hq11 hP14 hq14
    go_wp2_with fail
    refine HC.out.mono ?_
    rintro e w'' ⟨rfl,hb2⟩
    exact ⟨rfl,HI.out.step HL.out hb2 (by intro q hq; simp only [List.mem_cons,List.not_mem_nil,or_false] at hq; rcases hq with rfl | rfl | rfl | rfl <;> first | exact (show (2:Nat)≠15 by decide) | exact (show (5:Nat)≠15 by decide) | exact (show (11:Nat)≠15 by decide) | exact (show (14:Nat)≠15 by decide))⟩
   ·intro s D w' hD hW hC hI
    have hS:=hI.below
    refine .inl ⟨s,fun _ _ _=>rfl,?_⟩
    with_reducible refine OpTo.wanted ?_ ?_
    kernel_rfl
    have HS:=Lib.hid (hI.step HL.out (Below.refl _ _) (k:=16) (by intro q hq; simp only [List.mem_cons,List.not_mem_nil,or_false] at hq; rcases hq with rfl | rfl | rfl | rfl <;> first | exact (show (2:Nat)≠16 by decide) | exact (show (5:Nat)≠16 by decide) | exact (show (11:Nat)≠16 by decide) | exact (show (14:Nat)≠16 by decide)))
    clear hI hS hC hW hD
    go_wp2_with fail
    all_goals first | exact HS.out | exact ⟨rfl,HS.out⟩ | rfl
   ·intro s D w' hD hW hC hI
    have hS:=hI.below
    refine .inl ⟨s,fun _ _ _=>rfl,?_⟩
    with_reducible refine OpTo.plain ?_ ?_
    exact rfl
    have HS:=Lib.hid (hI.step HL.out (Below.refl _ _) (k:=17) (by intro q hq; simp only [List.mem_cons,List.not_mem_nil,or_false] at hq; rcases hq with rfl | rfl | rfl | rfl <;> first | exact (show (2:Nat)≠17 by decide) | exact (show (5:Nat)≠17 by decide) | exact (show (11:Nat)≠17 by decide) | exact (show (14:Nat)≠17 by decide)))
    clear hI hS hC hW hD
    go_wp2_with fail
    all_goals first | exact HS.out | exact ⟨rfl,HS.out⟩ | rfl
  intro s6 D6 w8 hall hI
  have b8:=hI.below
  clear hall hI HL
  have A_85:=Lib.hid (A_74.out.below b8 A_74.out.lt)
  have B_86:=Lib.hid (B_75.out.trans (b8.mono B_75.out.size))
  have L_87:=Lib.hid (L_76.out.below b8)
  have P_88:=Lib.hid (P_77.out.below b8)
  have H_89:=Lib.hid (H_78.out.below b8 H_78.out.lt)
  have m_90:=Lib.hid (m_79.out.below b8)
  have q_91:=Lib.hid (q_80.out.below b8)
  have C_92:=Lib.hid (C_81.out.below b8 C_81.out.lt)
  have l_93:=Lib.hid (l_82.out.below b8)
  have p_94:=Lib.hid (p_83.out.below b8)
  have w_95:=Lib.hid (w_84.out.below b8)
  have F_96:=Lib.hid (F0.out.below b8 F0.out.lt)
  clear A_74 B_75 L_76 P_77 H_78 m_79 q_80 C_81 l_82 p_83 w_84 F0
  clear b8
  have qz:((0:Int) != 0)=false:=by decide
  obtain ⟨hmf,hmp,hmg,hmv,hgg,hmn,hmm⟩:=DN.out.may
  have qf:decide (y.fr > 16)=false:=by simp; omega
  have qf2:decide (16<y.fr)=false:=by simp; omega
  have qp:decide (y.pt > 16)=false:=by simp; omega
  have qp2:decide (16<y.pt)=false:=by simp; omega
  have ql:decide ((σ.fs.length:Int) > 64)=false:=by have:=DN.out.len; simp; omega
  have ql2:decide (64<(σ.fs.length:Int))=false:=by have:=DN.out.len; simp; omega
  have ql3:¬ 64<σ.fs.length:=by have:=DN.out.len; omega
  have i1:0≤y.fr∧y.fr<17:=by omega
  have i2:0≤y.pt∧y.pt<17:=by omega
  have LT8:=Lib.hid (show (G1<w8.heap.size∧M1<w8.heap.size)∧(G2<w8.heap.size∧M2<w8.heap.size)∧(∀ b,Foot gb1 vb1 b→b<w8.heap.size)∧(∀ b,(Value.slice sa σ.fs.length sk).ownBlock=some b→b<w8.heap.size)∧w.heap.size + 1<w8.heap.size∧w4.heap.size<w8.heap.size∧w7.heap.size<w8.heap.size from ⟨⟨m_90.out.blk.lt,m_90.out.map.lt⟩,⟨l_93.out.blk.lt,l_93.out.map.lt⟩,fun b hb=>(q_91.out.lt hb).2,fun b hb=>(w_95.out.type hb).2.1,A_85.out.lt,C_92.out.lt,F_96.out.lt⟩)
  obtain ⟨_,_,hvv,q3,q4,_,_⟩:=w_95.out.look
  cases hvv
  have HCAP:=Lib.hid (And.intro q3 q4)
  clear q3 q4
  clear L_87 P_88 H_89 p_94
  have bb:=(Below.refl w8.heap.size w8).alloc (Nat.le_refl _) (.cells #[.bool false,.bool false,.bool false,.bool false,.bool false,.bool false,.bool false,.bool false,.bool false,.bool false,.bool false,.bool false,.bool false,.bool false,.bool false,.bool false,.bool false] 57)
  have KB0:=Lib.hid (Blk.new w8 #[.bool false,.bool false,.bool false,.bool false,.bool false,.bool false,.bool false,.bool false,.bool false,.bool false,.bool false,.bool false,.bool false,.bool false,.bool false,.bool false,.bool false] 57)
  have A_97:=Lib.hid (A_85.out.below bb A_85.out.lt)
  have B_98:=Lib.hid (B_86.out.trans (bb.mono B_86.out.size))
  have m_99:=Lib.hid (m_90.out.below bb)
  have q_100:=Lib.hid (q_91.out.below bb)
  have C_101:=Lib.hid (C_92.out.below bb C_92.out.lt)
  have l_102:=Lib.hid (l_93.out.below bb)
  have w_103:=Lib.hid (w_95.out.below bb)
  have F_104:=Lib.hid (F_96.out.below bb F_96.out.lt)
  clear A_85 B_86 m_90 q_91 C_92 l_93 w_95 F_96
  clear bb
  go_upto_region 12 with fail
  generalize w8.alloc (.cells #[.bool false,.bool false,.bool false,.bool false,.bool false,.bool false,.bool false,.bool false,.bool false,.bool false,.bool false,.bool false,.bool false,.bool false,.bool false,.bool false,.bool false] 57)=wc at *
  rw [bitsP_none] at KB0
  have HWX:Hid (w.heap.size≤w8.heap.size):=Lib.hid (by have:=LT8.out; omega)
  generalize hXX:w8.heap.size=X8 at *
  clear hXX
  have a0:=A_97.out.cell 0
  have a1:=A_97.out.cell 1
  have a2:=A_97.out.cell 2
  have a3:=A_97.out.cell 3
  have a4:=A_97.out.cell 4
  have a5:=A_97.out.cell 5
  have al:=A_97.out.lt
  simp at a0 a1 a2 a3 a4 a5
  have kl:=KB0.out.lt
  have kb1:=KB0.out.bitP (p:=y.fr) (by omega) (by omega)
  have kz1:=KB0.out.frozen y.fr.toNat
  have kk:Keep (·=X8) wc (wc.setCell ⟨X8,y.fr.toNat,none⟩ (.bool true)):=Keep.setCell (S:=(·=X8)) (Keep.refl _ _) (p:=⟨X8,y.fr.toNat,none⟩) (.inl rfl) _
  have h2:=KB0.out.set y.fr.toNat (.bool true)
  rw [bitsP_set _ (by omega)] at h2
  have KB1:=Lib.hid h2
  have KK:=Lib.hid kk
  clear h2 kk
  go_upto_region 15 with fail
  clear kl kb1 kz1 KB0
  generalize wc.setCell ⟨X8,y.fr.toNat,none⟩ (.bool true)=wd at *
  clear a0 a1 a2 a3 a4 a5 al
  have lt8:=LT8.out
  have A_105:=Lib.hid (A_97.out.keep KK.out (by omega))
  have C_106:=Lib.hid (C_101.out.keep KK.out (by omega))
  have F_107:=Lib.hid (F_104.out.keep KK.out (by omega))
  have m_108:=Lib.hid (m_99.out.keep KK.out (by omega) (by omega))
  have l_109:=Lib.hid (l_102.out.keep KK.out (by omega) (by omega))
  have q_110:=Lib.hid (q_100.out.keep KK.out (fun e=>by have:=lt8.2.2.1 gb1 (.inl rfl); omega) (fun b hb e=>by have:=lt8.2.2.1 b (.inr hb); omega))
  have w_111:=Lib.hid (w_103.out.keep KK.out (fun b hb e=>by have:=lt8.2.2.2.1 b hb; omega))
  have B_112:=Lib.hid (B_98.out.trans (KK.out.below B_98.out.size (fun j hj e=>by have:=HWX.out; omega)))
  clear lt8 A_97 C_101 F_104 m_99 l_102 q_100 w_103 B_98
  clear KK
  have a0:=A_105.out.cell 0
  have a1:=A_105.out.cell 1
  have a2:=A_105.out.cell 2
  have a3:=A_105.out.cell 3
  have a4:=A_105.out.cell 4
  have a5:=A_105.out.cell 5
  have al:=A_105.out.lt
  simp at a0 a1 a2 a3 a4 a5
  have kl:=KB1.out.lt
  have kb1:=KB1.out.bitP (p:=y.pt) (by omega) (by omega)
  have kz1:=KB1.out.frozen y.pt.toNat
  have kk:Keep (·=X8) wd (wd.setCell ⟨X8,y.pt.toNat,none⟩ (.bool true)):=Keep.setCell (S:=(·=X8)) (Keep.refl _ _) (p:=⟨X8,y.pt.toNat,none⟩) (.inl rfl) _
  have h2:=KB1.out.set y.pt.toNat (.bool true)
  rw [bitsP_set _ (by omega)] at h2
  have KB2:=Lib.hid h2
  have KK:=Lib.hid kk
  clear h2 kk
  go_upto_region 16 with fail
  clear kl kb1 kz1 KB1
  generalize wd.setCell ⟨X8,y.pt.toNat,none⟩ (.bool true)=we at *
  clear a0 a1 a2 a3 a4 a5 al
  have lt8:=LT8.out
  have A_113:=Lib.hid (A_105.out.keep KK.out (by omega))
  have C_114:=Lib.hid (C_106.out.keep KK.out (by omega))
  have F_115:=Lib.hid (F_107.out.keep KK.out (by omega))
  have m_116:=Lib.hid (m_108.out.keep KK.out (by omega) (by omega))
  have l_117:=Lib.hid (l_109.out.keep KK.out (by omega) (by omega))
  have q_118:=Lib.hid (q_110.out.keep KK.out (fun e=>by have:=lt8.2.2.1 gb1 (.inl rfl); omega) (fun b hb e=>by have:=lt8.2.2.1 b (.inr hb); omega))
  have w_119:=Lib.hid (w_111.out.keep KK.out (fun b hb e=>by have:=lt8.2.2.2.1 b hb; omega))
  have B_120:=Lib.hid (B_112.out.trans (KK.out.below B_112.out.size (fun j hj e=>by have:=HWX.out; omega)))
  clear lt8 A_105 C_106 F_107 m_108 l_109 q_110 w_111 B_112
  clear KK
  clear qf qf2 qp qp2 ql ql2 ql3
  go_wp2_with fail
  go_loopw [11,12,13,14] (fun gv i _ _ wr=>ExAt we X8 l y.fr y.pt σ.fs gv i wr) (fun _ i _ _ _=>σ.fs.length - (intOf i).toNat)
  case atStart =>
   refine ⟨0,_,Nat.zero_le _,rfl,by simp,KB2.out,?_,Keep.refl _ _⟩
   intro j hj
   simp only [Bool.or_false,Bool.or_eq_false_iff,beq_eq_false_iff_ne] at hj
   exact ⟨by omega,by omega,fun x hx=>by simp at hx⟩
  case round =>
   obtain ⟨k,f,hk,rfl,rfl,hB,hf,hK⟩:=hrel
   have KBr:=Lib.hid hB
   have PTr:=Lib.hid hf
   have KKr:=Lib.hid hK
   clear hB hf hK
   have lt8:=LT8.out
   have A_121:=Lib.hid (A_113.out.keep KKr.out (by omega))
   have C_122:=Lib.hid (C_114.out.keep KKr.out (by omega))
   have F_123:=Lib.hid (F_115.out.keep KKr.out (by omega))
   have m_124:=Lib.hid (m_116.out.keep KKr.out (by omega) (by omega))
   have l_125:=Lib.hid (l_117.out.keep KKr.out (by omega) (by omega))
   have q_126:=Lib.hid (q_118.out.keep KKr.out (fun e=>by have:=lt8.2.2.1 gb1 (.inl rfl); omega) (fun b hb e=>by have:=lt8.2.2.1 b (.inr hb); omega))
   have w_127:=Lib.hid (w_119.out.keep KKr.out (fun b hb e=>by have:=lt8.2.2.2.1 b hb; omega))
   have B_128:=Lib.hid (B_120.out.trans (KKr.out.below B_120.out.size (fun j hj e=>by have:=HWX.out; omega)))
   clear lt8 A_113 C_114 F_115 m_116 l_117 q_118 w_119 B_120
   have GB:=Lib.hid (got_bd (fun f hf=>by obtain ⟨_,_,_,_,_,_,h3,_⟩:=DN.out.inv.fs f hf; exact h3) k)
   by_cases hkl:k<σ.fs.length
   ·skip
    have q0:decide ((k:Int)<(σ.fs.length:Int))=true:=by simpa using hkl
    have hki:(k:Int)<(σ.fs.length:Int):=by omega
    have hk0:(0:Int)≤(k:Int):=by omega
    have HKL:=Lib.hid hkl
    obtain ⟨bf,hbf,hcf⟩:=rowed_fills w_127.out k hkl
    subst hbf
    have CF:=Lib.hid hcf
    have HT1:Hid (((σ.fs.take (k + 1)).map Fl.got).sum=((σ.fs.take k).map Fl.got).sum + σ.fs[k].got):=Lib.hid (by rw [List.take_succ_eq_append_getElem hkl,List.map_append,List.sum_append]; simp only [List.map_cons,List.map_nil,List.sum_cons,List.sum_nil]; omega)
    have HT2:Hid (σ.fs.take (k + 1)=σ.fs.take k++[σ.fs[k]]):=Lib.hid (List.take_succ_eq_append_getElem hkl)
    have FX:=Lib.hid (DN.out.inv.fs _ (List.getElem_mem hkl))
    generalize σ.fs[k]=fl at *
    obtain ⟨se,q,x⟩:=fl
    obtain ⟨o,ho,hs1,hs2,hs3,hs4,hs5,hs6⟩:=FX.out
    dsimp only at ho hs5 hs6 HT1 HT2 CF
    obtain ⟨sg,hsg⟩:∃ sg,((σ.fs.take k).map Fl.got).sum=sg:=⟨_,rfl⟩
    rw [hsg] at HT1 GB ⊢
    have HSG:=Lib.hid hsg
    have OMAY:=Lib.hid (JJ.out.may o (findO_mem ho).1)
    have OFN:=Lib.hid ho
    have HO4:=Lib.hid (And.intro hs1 (And.intro hs2 (And.intro hs3 hs5)))
    have CFi:=Lib.hid (fun w' (h:Below wr.heap.size wr w')=>(show Calls Tryz.prog 24 #[.pointer (some ⟨gb1,0,none⟩),.int .u64 se] w' fun e w''=>e=.returned (.tuple #[.agg #[.int .u64 o.se,.int .u8 o.ow,.int .u8 o.sl,.int .u8 o.bu,.int .i64 o.lf,.int .i64 o.nu,.int .i64 o.de],.bool true])∧Below w'.heap.size w' w'' from by have z:=pfind_any (q_126.out.below h) JJ.out.n1 se; rw [OFN.out] at z; exact z))
    clear hcf hkl hsg ho hs1 hs2 hs3 hs4 hs5 hs6 FX
    go_wp2_with fail
    refine region_ghost (by kernel_rfl) (fun g:Nat→Nat=>[(.pointer (some ⟨w4.heap.size,1,none⟩)),(.pointer (some ⟨gb1,0,none⟩)),(.slice (some ⟨bf,0,none⟩) σ.fs.length sk),(.int .i64 k),(.pointer (some ⟨bf,k * 5,none⟩)),(.pointer (some ⟨bf,k * 5,none⟩)),(.int .u64 se),(.tuple #[.agg #[.int .u64 o.se,.int .u8 o.ow,.int .u8 o.sl,.int .u8 o.bu,.int .i64 o.lf,.int .i64 o.nu,.int .i64 o.de],.bool true]),(.tuple #[.agg #[.int .u64 o.se,.int .u8 o.ow,.int .u8 o.sl,.int .u8 o.bu,.int .i64 o.lf,.int .i64 o.nu,.int .i64 o.de],.bool true]),(.agg #[.int .u64 o.se,.int .u8 o.ow,.int .u8 o.sl,.int .u8 o.bu,.int .i64 o.lf,.int .i64 o.nu,.int .i64 o.de]),(.bool true),(.pointer (some ⟨g 11,0,none⟩)),undef,(.bool true)])
     (Lays wr [(⟨11,12,(.cells #[.int .u64 0,.int .u8 0,.int .u8 0,.int .u8 0,.int .i64 0,.int .i64 0,.int .i64 0] 76),(.cells #[.int .u64 o.se,.int .u8 o.ow,.int .u8 o.sl,.int .u8 o.bu,.int .i64 o.lf,.int .i64 o.nu,.int .i64 o.de] 76)⟩:Spec)]) (by kernel_rfl) (fun _=>0) (Lays.start _ _ _) ?_
    intro AF hAF
    simp only [List.toList_toArray,puts,Act.put,List.getD_cons_zero,List.getD_cons_succ,List.setIfInBounds_toArray,List.set_cons_succ,List.set_cons_zero] at hAF
    have hAF2:_=AF:=funext hAF
    subst hAF2
    clear hAF
    refine ⟨?_,?_⟩
    ·simp only [List.toList_toArray,EachG]
     refine ⟨?_,?_,?_,?_,?_,?_,?_,?_,?_,?_,?_,?_,?_,?_,trivial⟩
     ·intro g D w' hD hW hC hI
      refine ⟨g,fun _ _ _=>rfl,?_⟩
      with_reducible refine OpTo.plain ?_ ?_
      exact rfl
      have hS:=hI.below
      have hl0:=Nat.lt_of_lt_of_le C_122.out.lt hS.size
      have HS:=Lib.hid (hI.step (Below.refl _ _) (k:=0) (by rfl))
      clear hI hS hC hW hD
      go_wp2_with fail
      all_goals first | exact HS.out | exact ⟨rfl,HS.out⟩ | rfl
     ·intro g D w' hD hW hC hI
      refine ⟨g,fun _ _ _=>rfl,?_⟩
      with_reducible refine OpTo.plain ?_ ?_
      exact rfl
      have hS:=hI.below
      have hl0:=Nat.lt_of_lt_of_le C_122.out.lt hS.size
      have d0_0:=(C_122.out.below hS C_122.out.lt).cell 0
      have d0_1:=(C_122.out.below hS C_122.out.lt).cell 1
      simp at d0_0 d0_1
      have HS:=Lib.hid (hI.step (Below.refl _ _) (k:=1) (by rfl))
      clear hI hS hC hW hD
      go_wp2_with fail
      all_goals first | exact HS.out | exact ⟨rfl,HS.out⟩ | rfl
     ·intro g D w' hD hW hC hI
      refine ⟨g,fun _ _ _=>rfl,?_⟩
      with_reducible refine OpTo.plain ?_ ?_
      exact rfl
      have hS:=hI.below
      have HS:=Lib.hid (hI.step (Below.refl _ _) (k:=2) (by rfl))
      clear hI hS hC hW hD
      go_wp2_with fail
      all_goals first | exact HS.out | exact ⟨rfl,HS.out⟩ | rfl
     ·intro g D w' hD hW hC hI
      refine ⟨g,fun _ _ _=>rfl,?_⟩
      with_reducible refine OpTo.plain ?_ ?_
      exact rfl
      have hS:=hI.below
      have HS:=Lib.hid (hI.step (Below.refl _ _) (k:=3) (by rfl))
      clear hI hS hC hW hD
      go_wp2_with fail
      all_goals first | exact HS.out | exact ⟨rfl,HS.out⟩ | rfl
     ·intro g D w' hD hW hC hI
      refine ⟨g,fun _ _ _=>rfl,?_⟩
      with_reducible refine OpTo.plain ?_ ?_
      exact rfl
      have hS:=hI.below
      obtain ⟨bl,hcj⟩:=CF.out w' hS
      have c0:=hcj 0 (by omega)
      simp only [Fl.vals,List.getElem?_cons_zero,List.getElem?_cons_succ,Nat.add_zero] at c0
      clear hcj
      have HS:=Lib.hid (hI.step (Below.refl _ _) (k:=4) (by rfl))
      clear hI hS hC hW hD
      go_wp2_with fail
      all_goals first | exact HS.out | exact ⟨rfl,HS.out⟩ | rfl
     ·intro g D w' hD hW hC hI
      refine ⟨g,fun _ _ _=>rfl,?_⟩
      with_reducible refine OpTo.plain ?_ ?_
      exact rfl
      have hS:=hI.below
      obtain ⟨bl,hcj⟩:=CF.out w' hS
      have c0:=hcj 0 (by omega)
      simp only [Fl.vals,List.getElem?_cons_zero,List.getElem?_cons_succ,Nat.add_zero] at c0
      clear hcj
      have HS:=Lib.hid (hI.step (Below.refl _ _) (k:=5) (by rfl))
      clear hI hS hC hW hD
      go_wp2_with fail
      all_goals first | exact HS.out | exact ⟨rfl,HS.out⟩ | rfl
     ·intro g D w' hD hW hC hI
      refine ⟨g,fun _ _ _=>rfl,?_⟩
      with_reducible refine OpTo.plain ?_ ?_
      exact rfl
      have hS:=hI.below
      obtain ⟨bl,hcj⟩:=CF.out w' hS
      have c0:=hcj 0 (by omega)
      simp only [Fl.vals,List.getElem?_cons_zero,List.getElem?_cons_succ,Nat.add_zero] at c0
      clear hcj
      have HS:=Lib.hid (hI.step (Below.refl _ _) (k:=6) (by rfl))
      clear hI hS hC hW hD
      go_wp2_with fail
      all_goals first | exact HS.out | exact ⟨rfl,HS.out⟩ | rfl
     ·intro g D w' hD hW hC hI
      refine ⟨g,fun _ _ _=>rfl,?_⟩
      with_reducible refine OpTo.plain ?_ ?_
      exact rfl
      have hS:=hI.below
      have HI:=Lib.hid hI
      have HC:=Lib.hid (CFi.out w' hS)
      clear hI hS hC hW hD
      go_wp2_with fail
      refine HC.out.mono ?_
      rintro e w'' ⟨rfl,hb2⟩
      exact ⟨rfl,HI.out.step hb2 (by rfl)⟩
     ·intro g D w' hD hW hC hI
      refine ⟨g,fun _ _ _=>rfl,?_⟩
      with_reducible refine OpTo.plain ?_ ?_
      exact rfl
      have hS:=hI.below
      have HS:=Lib.hid (hI.step (Below.refl _ _) (k:=8) (by rfl))
      clear hI hS hC hW hD
      go_wp2_with fail
      all_goals first | exact HS.out | exact ⟨rfl,HS.out⟩ | rfl
     ·intro g D w' hD hW hC hI
      refine ⟨g,fun _ _ _=>rfl,?_⟩
      with_reducible refine OpTo.plain ?_ ?_
      exact rfl
      have hS:=hI.below
      have HS:=Lib.hid (hI.step (Below.refl _ _) (k:=9) (by rfl))
      clear hI hS hC hW hD
      go_wp2_with fail
      all_goals first | exact HS.out | exact ⟨rfl,HS.out⟩ | rfl
     ·intro g D w' hD hW hC hI
      refine ⟨g,fun _ _ _=>rfl,?_⟩
      with_reducible refine OpTo.plain ?_ ?_
      exact rfl
      have hS:=hI.below
      have HS:=Lib.hid (hI.step (Below.refl _ _) (k:=10) (by rfl))
      clear hI hS hC hW hD
      go_wp2_with fail
      all_goals first | exact HS.out | exact ⟨rfl,HS.out⟩ | rfl
     ·intro g D w' hD hW hC hI
      have hN:D 12=false:=waits_not hC hD 16 12 (by kernel_rfl)
      refine ⟨upd g 11 w'.heap.size,vals_upd _ (fun g:Nat→Nat=>[(.pointer (some ⟨w4.heap.size,1,none⟩)),(.pointer (some ⟨gb1,0,none⟩)),(.slice (some ⟨bf,0,none⟩) σ.fs.length sk),(.int .i64 k),(.pointer (some ⟨bf,k * 5,none⟩)),(.pointer (some ⟨bf,k * 5,none⟩)),(.int .u64 se),(.tuple #[.agg #[.int .u64 o.se,.int .u8 o.ow,.int .u8 o.sl,.int .u8 o.bu,.int .i64 o.lf,.int .i64 o.nu,.int .i64 o.de],.bool true]),(.tuple #[.agg #[.int .u64 o.se,.int .u8 o.ow,.int .u8 o.sl,.int .u8 o.bu,.int .i64 o.lf,.int .i64 o.nu,.int .i64 o.de],.bool true]),(.agg #[.int .u64 o.se,.int .u8 o.ow,.int .u8 o.sl,.int .u8 o.bu,.int .i64 o.lf,.int .i64 o.nu,.int .i64 o.de]),(.bool true),(.pointer (some ⟨g 11,0,none⟩)),undef,(.bool true)]) g 11 _ 16 hC hD ?_,?_⟩
      ·intro j hj
       match j,hj with
       | 0,_=>exact .inr rfl
       | 1,_=>exact .inr rfl
       | 2,_=>exact .inr rfl
       | 3,_=>exact .inr rfl
       | 4,_=>exact .inr rfl
       | 5,_=>exact .inr rfl
       | 6,_=>exact .inr rfl
       | 7,_=>exact .inr rfl
       | 8,_=>exact .inr rfl
       | 9,_=>exact .inr rfl
       | 10,_=>exact .inr rfl
       | 11,_=>exact .inl (.inl rfl)
       | 12,_=>exact .inr rfl
       | 13,_=>exact .inr rfl
       | j + 14,_=>exact .inr rfl
      with_reducible refine OpTo.plain ?_ ?_
      exact rfl
      have HS:=Lib.hid (hI.lay (⟨11,12,(.cells #[.int .u64 0,.int .u8 0,.int .u8 0,.int .u8 0,.int .i64 0,.int .i64 0,.int .i64 0] 76),(.cells #[.int .u64 o.se,.int .u8 o.ow,.int .u8 o.sl,.int .u8 o.bu,.int .i64 o.lf,.int .i64 o.nu,.int .i64 o.de] 76)⟩:Spec) (by simp) (by rfl) (.inr hN) (by rfl) (fun s' hs' _=>List.mem_singleton.1 hs') (.cells #[.int .u64 0,.int .u8 0,.int .u8 0,.int .u8 0,.int .i64 0,.int .i64 0,.int .i64 0] 76) rfl)
      clear hI hC hW hD hN
      go_wp2_with fail
      all_goals first | exact HS.out | exact ⟨rfl,HS.out⟩ | rfl
     ·intro g D w' hD hW hC hI
      have hP:D 11=true:=waited_done hC hW (d:=16) (by kernel_rfl)
      obtain ⟨hg,hk⟩:=hI.zeroed (⟨11,12,(.cells #[.int .u64 0,.int .u8 0,.int .u8 0,.int .u8 0,.int .i64 0,.int .i64 0,.int .i64 0] 76),(.cells #[.int .u64 o.se,.int .u8 o.ow,.int .u8 o.sl,.int .u8 o.bu,.int .i64 o.lf,.int .i64 o.nu,.int .i64 o.de] 76)⟩:Spec) (by simp) hP hD
      refine ⟨g,fun _ _ _=>rfl,?_⟩
      with_reducible refine OpTo.plain ?_ ?_
      exact rfl
      refine wp_store_row 76 (.tmp 13) (.tmp 101) rfl (g 11) #[.int .u64 o.se,.int .u8 o.ow,.int .u8 o.sl,.int .u8 o.bu,.int .i64 o.lf,.int .i64 o.nu,.int .i64 o.de] rfl rfl 76 _ hk (by kernel_rfl) rfl (by simp [Value.oneCell']) ⟨rfl,?_⟩
      exact hI.fill (⟨11,12,(.cells #[.int .u64 0,.int .u8 0,.int .u8 0,.int .u8 0,.int .i64 0,.int .i64 0,.int .i64 0] 76),(.cells #[.int .u64 o.se,.int .u8 o.ow,.int .u8 o.sl,.int .u8 o.bu,.int .i64 o.lf,.int .i64 o.nu,.int .i64 o.de] 76)⟩:Spec) (by simp) (by rfl) (show (12:Nat)≠11 by decide) (fun s' hs' _=>List.mem_singleton.1 hs') hP (below_keepRow _ _) (setRow_heap w' (g 11) _ _ 76 (0,0) hk)
     ·intro g D w' hD hW hC hI
      refine ⟨g,fun _ _ _=>rfl,?_⟩
      with_reducible refine OpTo.plain ?_ ?_
      exact rfl
      have hS:=hI.below
      have HS:=Lib.hid (hI.step (Below.refl _ _) (k:=13) (by rfl))
      clear hI hS hC hW hD
      go_wp2_with fail
      all_goals first | exact HS.out | exact ⟨rfl,HS.out⟩ | rfl
    intro g D w5 hall hI
    have KO:=Lib.hid (show Blk w5 (g 11) #[.int .u64 o.se,.int .u8 o.ow,.int .u8 o.sl,.int .u8 o.bu,.int .i64 o.lf,.int .i64 o.nu,.int .i64 o.de] 76 from (hI.full (⟨11,12,(.cells #[.int .u64 0,.int .u8 0,.int .u8 0,.int .u8 0,.int .i64 0,.int .i64 0,.int .i64 0] 76),(.cells #[.int .u64 o.se,.int .u8 o.ow,.int .u8 o.sl,.int .u8 o.bu,.int .i64 o.lf,.int .i64 o.nu,.int .i64 o.de] 76)⟩:Spec) (by simp) (hall 11 (by decide)) (hall 12 (by decide))).2)
    have b5:=hI.below
    clear hall hI CFi
    have CF5:=Lib.hid (fun w' (h:Below w5.heap.size w5 w')=>CF.out w' (andB b5 h))
    clear CF
    have A_129:=Lib.hid (A_121.out.below b5 A_121.out.lt)
    have B_130:=Lib.hid (B_128.out.trans (b5.mono B_128.out.size))
    have m_131:=Lib.hid (m_124.out.below b5)
    have q_132:=Lib.hid (q_126.out.below b5)
    have C_133:=Lib.hid (C_122.out.below b5 C_122.out.lt)
    have l_134:=Lib.hid (l_125.out.below b5)
    have w_135:=Lib.hid (w_127.out.below b5)
    have F_136:=Lib.hid (F_123.out.below b5 F_123.out.lt)
    have b_137:=Lib.hid (KBr.out.below b5 KBr.out.lt)
    have K_138:=Lib.hid (KKr.out.trans (Keep.of_below b5))
    clear A_121 B_128 m_124 q_126 C_122 l_125 w_127 F_123 KBr KKr
    clear b5
    obtain ⟨bl,hcj⟩:=CF5.out w5 (Below.refl _ _)
    have c1:=hcj 1 (by omega); have c2:=hcj 2 (by omega); have c3:=hcj 3 (by omega)
    simp only [Fl.vals,List.getElem?_cons_zero,List.getElem?_cons_succ] at c1 c2 c3
    clear hcj
    obtain ⟨hs1,hs2,hs3,hs5⟩:=HO4.out
    obtain ⟨⟨ow1,ow2⟩,_⟩:=OMAY.out
    have ho1:0≤o.ow∧o.ow<17:=by omega
    have z1:decide (o.ow > 16)=false:=by simp; omega
    have z2:decide (16<o.ow)=false:=by simp; omega
    have z3:(o.ow==y.fr)=false:=by simpa using hs3
    have z4:(o.sl != y.get)=false:=by simp [hs1]
    have z5:(o.bu != y.give)=false:=by simp [hs2]
    have z6:(y.fr != y.fr)=false:=by simp
    have z7:(y.pt != y.pt)=false:=by simp
    clear hs1 hs2 hs3
    have a0:=A_129.out.cell 0
    have a1:=A_129.out.cell 1
    have a2:=A_129.out.cell 2
    have a3:=A_129.out.cell 3
    have a4:=A_129.out.cell 4
    have a5:=A_129.out.cell 5
    have al:=A_129.out.lt
    simp at a0 a1 a2 a3 a4 a5
    have o0:=KO.out.cell 0
    have o1:=KO.out.cell 1
    have o2:=KO.out.cell 2
    have o3:=KO.out.cell 3
    have o4:=KO.out.cell 4
    have o5:=KO.out.cell 5
    have o6:=KO.out.cell 6
    have ol:=KO.out.lt
    simp at o0 o1 o2 o3 o4 o5 o6
    go_wp2_with fail
    go_quiet (fail)
    have b6:Below w5.heap.size w5 (w5.drewN nq):=below_drewN (Below.refl _ _) nq
    clear a0 a1 a2 a3 a4 a5 al o0 o1 o2 o3 o4 o5 o6 ol
    have CF6:=Lib.hid (fun w' (h:Below (w5.drewN nq).heap.size (w5.drewN nq) w')=>CF5.out w' (andB b6 h))
    clear CF5 c1 c2 c3 bl z1 z2 z3 z4 z5 z6 z7
    have A_139:=Lib.hid (A_129.out.below b6 A_129.out.lt)
    have B_140:=Lib.hid (B_130.out.trans (b6.mono B_130.out.size))
    have m_141:=Lib.hid (m_131.out.below b6)
    have q_142:=Lib.hid (q_132.out.below b6)
    have C_143:=Lib.hid (C_133.out.below b6 C_133.out.lt)
    have l_144:=Lib.hid (l_134.out.below b6)
    have w_145:=Lib.hid (w_135.out.below b6)
    have F_146:=Lib.hid (F_136.out.below b6 F_136.out.lt)
    have b_147:=Lib.hid (b_137.out.below b6 b_137.out.lt)
    have K_148:=Lib.hid (K_138.out.trans (Keep.of_below b6))
    have O_149:=Lib.hid (KO.out.below b6 KO.out.lt)
    clear A_129 B_130 m_131 q_132 C_133 l_134 w_135 F_136 b_137 K_138 KO
    clear b6
    generalize w5.drewN nq=w6 at *
    have o0:=O_149.out.cell 0
    have o1:=O_149.out.cell 1
    have o2:=O_149.out.cell 2
    have o3:=O_149.out.cell 3
    have o4:=O_149.out.cell 4
    have o5:=O_149.out.cell 5
    have o6:=O_149.out.cell 6
    have ol:=O_149.out.lt
    simp at o0 o1 o2 o3 o4 o5 o6
    have kl:=b_147.out.lt
    have kb1:=b_147.out.bitP (p:=o.ow) (by omega) (by omega)
    have kz1:=b_147.out.frozen o.ow.toNat
    have kk:Keep (·=X8) w6 (w6.setCell ⟨X8,o.ow.toNat,none⟩ (.bool true)):=Keep.setCell (S:=(·=X8)) (Keep.refl _ _) (p:=⟨X8,o.ow.toNat,none⟩) (.inl rfl) _
    have h2:=b_147.out.set o.ow.toNat (.bool true)
    rw [bitsP_set _ (by omega)] at h2
    have KB3:=Lib.hid h2
    have KK:=Lib.hid kk
    clear h2 kk
    go_upto_region 23 with fail
    clear kl kb1 kz1 b_147
    generalize w6.setCell ⟨X8,o.ow.toNat,none⟩ (.bool true)=w7_ at *
    clear o0 o1 o2 o3 o4 o5 o6 ol
    have CF7:=Lib.hid (show bf<w7_.heap.size∧w7_.cell? ⟨bf,k * 5 + 3,none⟩=some (.int .i64 q) from by
     obtain ⟨bl,hcj⟩:=CF6.out w6 (Below.refl _ _)
     have c3:=hcj 3 (by omega)
     simp only [Fl.vals,List.getElem?_cons_zero,List.getElem?_cons_succ] at c3
     have hbx:¬ bf=X8:=by have h1:=LT8.out.2.2.2.1 bf rfl; omega
     exact ⟨Nat.lt_of_lt_of_le bl KK.out.size,by rw [KK.out.cell (p:=⟨bf,k * 5 + 3,none⟩) bl hbx]; exact c3⟩)
    have KK7:=Lib.hid (K_148.out.trans KK.out)
    have PT7:Hid (PartsP l y.fr y.pt σ.fs (k + 1) (fun j=>j==o.ow.toNat || f j)):=Lib.hid (by
     intro j hj
     simp only [Bool.or_eq_false_iff,beq_eq_false_iff_ne] at hj
     obtain ⟨h1,h2,h3⟩:=PTr.out j hj.2
     refine ⟨h1,h2,fun x hx o2 ho2=>?_⟩
     rw [HT2.out] at hx
     rcases List.mem_append.1 hx with hx | hx
     ·exact h3 x hx o2 ho2
     ·rw [List.mem_singleton] at hx
      subst hx
      rw [OFN.out] at ho2
      cases ho2
      have:=hj.1
      omega)
    obtain ⟨bl,c3⟩:=CF7.out
    obtain ⟨g1,g2⟩:=GB.out
    have hl64:=DN.out.len
    have hkl:=HKL.out
    clear KK
    go_wp2_with fail
    exact ⟨⟨k + 1,_,by omega,by go_num,by rw [HT1.out],KB3.out,PT7.out,KK7.out⟩,by simp [intOf]; omega⟩
   ·have hkn:k=σ.fs.length:=by omega
    subst hkn
    have q0:decide (((σ.fs.length:Nat):Int)<(σ.fs.length:Int))=false:=by simp
    have HGOT:((σ.fs.take σ.fs.length).map Fl.got).sum=y.n:=by rw [List.take_length]; exact DN.out.got
    rw [HGOT]
    clear HGOT GB
    have GV:=DN.out.inv.given_bd
    have GV2:=DN.out.given
    have GV3:=DN.out.may.2.2.2.2.2.2.2
    have HGI:=Lib.hid (DN.out.inv.giver DN.out.may.2.2.2.2.1)
    have CG:=Lib.hid (pgiven_in (rowed_fills w_127.out) (fun f hf=>by obtain ⟨_,_,_,_,_,_,_,h1,h2⟩:=DN.out.inv.fs f hf; exact ⟨by omega,by omega⟩) (by have:=DN.out.len; omega) HCAP.out.1 HCAP.out.2)
    obtain ⟨gs,hgs⟩:∃ gs,(σ.fs.map Fl.gi).sum=gs:=⟨_,rfl⟩
    rw [hgs] at GV GV2 CG HGI
    rw [show okN gs=gs from if_pos ⟨by omega,by omega⟩] at CG
    obtain ⟨gv1,gv2⟩:=GV
    clear hgs gv2
    go_wp2_with fail
    refine (CG.out).mono ?_
    rintro e w_150 ⟨rfl,b⟩
    have A_151:=Lib.hid (A_121.out.below b A_121.out.lt)
    have B_152:=Lib.hid (B_128.out.trans (b.mono B_128.out.size))
    have m_153:=Lib.hid (m_124.out.below b)
    have q_154:=Lib.hid (q_126.out.below b)
    have C_155:=Lib.hid (C_122.out.below b C_122.out.lt)
    have l_156:=Lib.hid (l_125.out.below b)
    have w_157:=Lib.hid (w_127.out.below b)
    have F_158:=Lib.hid (F_123.out.below b F_123.out.lt)
    have b_159:=Lib.hid (KBr.out.below b KBr.out.lt)
    clear A_121 B_128 m_124 q_126 C_122 l_125 w_127 F_123 KBr
    clear b
    clear CG
    have qn:(y.n != y.n)=false:=by simp
    have qm:decide (gs > y.mo)=false:=by simp; omega
    have qm2:decide (y.mo<gs)=false:=by simp; omega
    have CE:=Lib.hid (even_any (gb:=some ⟨gb2,0,none⟩) (gb2:=some ⟨gb1,0,none⟩) (f:=f) l_156.out DN.out.inv.linv m_153.out II.out DN.out.inv.lim (fun k c hk hf=>by
     obtain ⟨h1,h2,h3⟩:=PTr.out k hf
     exact DN.out.inv.aside h1 h2 (fun x hx o ho=>h3 x (by rw [List.take_length]; exact hx) o ho) c))
    have a0:=A_151.out.cell 0
    have a1:=A_151.out.cell 1
    have a2:=A_151.out.cell 2
    have a3:=A_151.out.cell 3
    have a4:=A_151.out.cell 4
    have a5:=A_151.out.cell 5
    have al:=A_151.out.lt
    simp at a0 a1 a2 a3 a4 a5
    have f0:=F_158.out.cell 0
    have f1:=F_158.out.cell 1
    have fl:=F_158.out.lt
    simp at f0 f1
    have c0:=C_155.out.cell 0
    have c1:=C_155.out.cell 1
    have cl:=C_155.out.lt
    simp at c0 c1
    go_wp2_with (refine wpList_load_row_w 57 (.tmp 10) ?_ X8 ?_ 57 (bitsP f) (0,0) _ b_159.out.out Tryz.underlying57 ?_ (info_bits _) ?_ ?_; exact rfl; exact rfl; exact rfl; exact (by kernel_rfl))
    refine (CE.out).mono ?_
    rintro e w_160 ⟨rfl,b⟩
    clear a0 a1 a2 a3 a4 a5 al f0 f1 fl c0 c1 cl
    have A_161:=Lib.hid (A_151.out.below b A_151.out.lt)
    have B_162:=Lib.hid (B_152.out.trans (b.mono B_152.out.size))
    have m_163:=Lib.hid (m_153.out.below b)
    have q_164:=Lib.hid (q_154.out.below b)
    have C_165:=Lib.hid (C_155.out.below b C_155.out.lt)
    have l_166:=Lib.hid (l_156.out.below b)
    have w_167:=Lib.hid (w_157.out.below b)
    have F_168:=Lib.hid (F_158.out.below b F_158.out.lt)
    have b_169:=Lib.hid (b_159.out.below b b_159.out.lt)
    clear A_151 B_152 m_153 q_154 C_155 l_156 w_157 F_158 b_159
    clear b
    clear CE qn qm qm2
    have CM:=Lib.hid (moved_any l_166.out DN.out.inv.linv m_163.out II.out y.fr y.give (n := -gs) (by omega) (by omega))
    rw [decide_eq_true HGI.out] at CM
    have a0:=A_161.out.cell 0
    have a1:=A_161.out.cell 1
    have a2:=A_161.out.cell 2
    have a3:=A_161.out.cell 3
    have a4:=A_161.out.cell 4
    have a5:=A_161.out.cell 5
    have al:=A_161.out.lt
    simp at a0 a1 a2 a3 a4 a5
    have f0:=F_168.out.cell 0
    have f1:=F_168.out.cell 1
    have fl:=F_168.out.lt
    simp at f0 f1
    have c0:=C_165.out.cell 0
    have c1:=C_165.out.cell 1
    have cl:=C_165.out.lt
    simp at c0 c1
    go_wp2_with fail
    refine (CM.out).mono ?_
    rintro e w_170 ⟨rfl,b⟩
    clear a0 a1 a2 a3 a4 a5 al f0 f1 fl c0 c1 cl
    have A_171:=Lib.hid (A_161.out.below b A_161.out.lt)
    have B_172:=Lib.hid (B_162.out.trans (b.mono B_162.out.size))
    have m_173:=Lib.hid (m_163.out.below b)
    have q_174:=Lib.hid (q_164.out.below b)
    have C_175:=Lib.hid (C_165.out.below b C_165.out.lt)
    have l_176:=Lib.hid (l_166.out.below b)
    have w_177:=Lib.hid (w_167.out.below b)
    have F_178:=Lib.hid (F_168.out.below b F_168.out.lt)
    have b_179:=Lib.hid (b_169.out.below b b_169.out.lt)
    clear A_161 B_162 m_163 q_164 C_165 l_166 w_167 F_168 b_169
    clear b
    clear CM
    go_wp2_with fail
    refine (HLo.out _).mono ?_
    rintro e w_180 ⟨rfl,b⟩
    have A_181:=Lib.hid (A_171.out.below b A_171.out.lt)
    have B_182:=Lib.hid (B_172.out.trans (b.mono B_172.out.size))
    have m_183:=Lib.hid (m_173.out.below b)
    have q_184:=Lib.hid (q_174.out.below b)
    have C_185:=Lib.hid (C_175.out.below b C_175.out.lt)
    have l_186:=Lib.hid (l_176.out.below b)
    have w_187:=Lib.hid (w_177.out.below b)
    have F_188:=Lib.hid (F_178.out.below b F_178.out.lt)
    have b_189:=Lib.hid (b_179.out.below b b_179.out.lt)
    clear A_171 B_172 m_173 q_174 C_175 l_176 w_177 F_178 b_179
    clear b
    go_wp2_with fail
    go_ret
    exact ⟨rfl,B_182.out⟩
end Go.Proofs.YtojbmnbphdcjfaaGreat
