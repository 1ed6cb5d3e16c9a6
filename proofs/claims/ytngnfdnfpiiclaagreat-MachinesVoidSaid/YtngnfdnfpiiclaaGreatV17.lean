/-
  Pieces of one proof, without what is not wanted: PB8, PlaceNext, CheapMath.
-/
import Derived.Test.YtngnfdnfpiiclaaGreatV03
import Derived.Test.YtngnfdnfpiiclaaGreatV15
import Derived.Test.YtngnfdnfpiiclaaGreatV16
import Derived.Maps.AppendAt
import Derived.Deep.RegionLaw
set_option linter.unusedSimpArgs false
set_option linter.unusedVariables false
namespace Go.Proofs.YtngnfdnfpiiclaaGreat
open Go.RowKit
theorem step_append_off {P:Program} {ops:Array Oper} {o:Oper} {a:Act} {w:World} {K:Act→World→Prop} {Q:Exit→Act→World→Prop} {E:Prop}
  (hg:o.guard=none) (s x:Operand) (t:TypeId) (hop:o.op=Op.call { callee:=Callee.builtin Builtin.append,args:=#[s,x],argTypes:=#[t,t] })
  (base:Nat) (e:TypeId) {z:Value} (ht:P.underlying t=some (.slice e)) (hz0:z.cells.size=7) (hi:(P.info? e).map (fun i=>(i.zero,i.size,i.bytes))=some (some z,7,40)) (v:Value) (l:List Of) (hs:a.eval s=v) (hown:w.ownsRow base e 7 v l.length (ofCells l))
  (g c:Nat) (y:Of) (hx:a.eval x=.slice (some ⟨g,0,none⟩) 1 c) (hy:Blk w g #[.int .u64 y.se,.int .u8 y.ow,.int .u8 y.sl,.int .u8 y.bu,.int .i64 y.lf,.int .i64 y.nu,.int .i64 y.de] e) (hlen:l.length≤100000) (hbase:base≤w.heap.size)
  (hK:∀ v' w',w'.ownsRow base e 7 v' (l++[y]).length (ofCells (l++[y]))→w.grownBy w' v.ownBlock→(v'.ownBlock=v.ownBlock∨v'.ownBlock=some w.heap.size)→K (a.put o.dst v') w') :
  if Region.wanted o (yielded ops a.tmps)=true then Oper.wp P o a w K Q else E:=by
 have hw:Region.wanted o (yielded ops a.tmps)=true:=by simp [Region.wanted,hg]
 rw [if_pos hw]
 obtain ⟨i0,hi1,hi2,hi3,hi4⟩:=info_parts hi
 obtain ⟨v',w',hr,h2,h3,_,h5⟩:=run_append_own_at (P:=P) w base t o.type e i0 z 7 40 ht hi1 hi2 hi3 hi4 hz0 (by decide) v l.length (ofCells l) hown ⟨g,0,none⟩ 1 c y.vals rfl (fun j u hj=>by
   have:=hy.cell j
   rw [Go.WideShapes.add_plain,Nat.zero_add,this]
   match j,hj with
   | 0,hj=>simpa [Of.vals] using hj
   | 1,hj=>simpa [Of.vals] using hj
   | 2,hj=>simpa [Of.vals] using hj
   | 3,hj=>simpa [Of.vals] using hj
   | 4,hj=>simpa [Of.vals] using hj
   | 5,hj=>simpa [Of.vals] using hj
   | 6,hj=>simpa [Of.vals] using hj
   | j + 7,hj=>simp [Of.vals] at hj) (by intro u hu; simp [Of.vals] at hu; rcases hu with rfl | rfl | rfl | rfl | rfl | rfl | rfl <;> rfl) (by unfold maxLen; omega) (by omega) hbase
 rw [← ofCells_one,← ofCells_append] at h2
 refine wp_append_pair s x t hop hs hx hr ?_
 exact hK v' w' (by rw [List.length_append]; exact h2) h3 h5
theorem BInv.place {l:List Of} {x:Of} (h:BInv l x.se):BInv (placeL l x) (placeN l x):=by
 unfold placeL placeN
 by_cases e:placeE l x=0
 ·rw [if_pos e,if_pos e]
  unfold placeE at e
  split at e
  ·simp at e
  ·rename_i hm
   have hm:=Decidable.not_not.1 hm
   split at e
   ·simp at e
   ·rename_i h2
    have:=h.len; have:=h.n1; have:=h.n2
    have hl:l.length≠32:=fun k=>h2 (.inl k)
    have hs:x.se≠18446744073709551615:=fun k=>h2 (.inr k)
    refine ⟨fun y hy=>?_,?_,fun y hy=>?_,by rw [List.length_append,List.length_singleton]; omega,by omega,by omega⟩
    ·rcases List.mem_append.1 hy with hy | hy
     ·exact h.may y hy
     ·rw [List.mem_singleton] at hy; rw [hy]; exact hm
    ·rw [List.pairwise_append]
     refine ⟨h.rise,by simp,fun a ha b hb=>?_⟩
     rw [List.mem_singleton] at hb
     rw [hb]
     exact (h.bd a ha).2
    ·rcases List.mem_append.1 hy with hy | hy
     ·have:=h.bd y hy; omega
     ·rw [List.mem_singleton] at hy; rw [hy]; omega
 ·rw [if_neg e,if_neg e]; exact h
theorem PB.setN {w:World} {base g:Nat} {l:List Of} {N:Int} {vl:Value} (h:PB w base g l N vl) (M:Int):PB (w.setCell ⟨g,1,none⟩ (.int .u64 M)) base g l M vl:=by
 have k2:Keep (·=g) w (w.setCell ⟨g,1,none⟩ (.int .u64 M)):=Keep.setCell (S:=(·=g)) (Keep.refl _ _) (p:=⟨g,1,none⟩) (.inl rfl) _
 exact ⟨by simpa using h.blk.set 1 (.int .u64 M),h.ge,owns_keep h.row k2 (fun b hb e=>h.apart b hb e)⟩
theorem appended {W w':World} {base g cap:Nat} {ao:Option Addr} {l:List Of} {x:Of} {N:Int} {c:Obj} {v':Value} (h:PB W base g l N (.slice ao l.length cap)) (ho:w'.ownsRow base 197 7 v' (l++[x]).length (ofCells (l++[x])))
  (hgr:(W.drew.alloc c).grownBy w' (Value.ownBlock (.slice ao l.length cap))) (hat:v'.ownBlock=Value.ownBlock (.slice ao l.length cap)∨v'.ownBlock=some (W.drew.alloc c).heap.size) :
  Blk w' g #[.slice ao l.length cap,.int .u64 N] 158∧(PB (w'.setCell ⟨g,0,none⟩ v') base g (l++[x]) N v'∧(Keep (Foot g (.slice ao l.length cap)) W (w'.setCell ⟨g,0,none⟩ v')∧Moved W (.slice ao l.length cap) v') ∧
   ∀ {a:Nat} {cs:Array Value} {t:TypeId},Blk W a cs t→(¬ Foot g (.slice ao l.length cap) a)→Blk (w'.setCell ⟨g,0,none⟩ v') a cs t):=by
 have hB:Blk w' g #[.slice ao l.length cap,.int .u64 N] 158:=Blk.grown ((h.blk.drew).alloc _) hgr (fun e=>(h.apart _ e) rfl)
 have k2:Keep (·=g) w' (w'.setCell ⟨g,0,none⟩ v'):=Keep.setCell (S:=(·=g)) (Keep.refl _ _) (p:=⟨g,0,none⟩) (.inl rfl) _
 have k1:Keep (Foot g (.slice ao l.length cap)) W w':=((Keep.refl _ W).drew.alloc _).grown hgr (fun k hk=>.inl (.inr hk))
 have hgl:=h.blk.lt
 have k3:=k1.trans (k2.mono fun k _ hk=>.inl hk)
 refine ⟨hB,⟨by simpa using hB.set 0 v',h.ge,owns_keep ho k2 ?_⟩,⟨k3,?_⟩,fun ha hf=>ha.keep k3 hf⟩
 ·intro b hb e
  rcases hat with q | q
  ·rw [hb] at q; exact h.apart b q.symm e
  ·rw [hb] at q; cases q; rw [← e] at hgl; simp at hgl; omega
 ·intro b hb
  rcases hat with q | q
  ·exact .inl (by rw [← q]; exact hb)
  ·rw [hb] at q; cases q; exact .inr (by simp)
set_option maxHeartbeats 4000000 in
set_option maxRecDepth 100000 in
theorem pplace_r1 {W:World} {R:Nat} {x:Of} {pv:Value} (HN:Hid (∀ w',Below W.heap.size W w'→Calls Tryz.prog 60 #[pv] w' fun e w''=>e=.returned (.int .u64 x.se)∧w'=w'')) (KR:Hid (Blk W R #[.int .i64 x.nu,.int .i64 x.de] 73)) {Q:Exit→Act→World→Prop} {c5 c6 c7 c8 c9 c10 c12 c13 c14 c15 c16 c17 c18 c19 c20 c21 c22 c23 c24 c25 c26 c27 c28 c29 c30 c31 c32 c33 c34 c35 c36 c37 c38 c39 c40 c41 c42 c43 c44 c45 c46 c47 c48 c49 c50 c51 c52 c53 c54 c55 c56 c57 c58 c59 c60 c61:Value}
  (hq:∀ a w6,W.heap.size≤a→Blk w6 a #[.int .u64 x.se,.int .u8 x.ow,.int .u8 x.sl,.int .u8 x.bu,.int .i64 x.lf,.int .i64 x.nu,.int .i64 x.de] 197→Below W.heap.size W w6→Q .normal ⟨#[pv,(.int .u8 x.ow),(.int .u8 x.sl),(.int .u8 x.bu),(.int .i64 x.lf),c5,c6,c7,c8,c9,c10,(.pointer (some ⟨R,0,none⟩)),c12,c13,(.pointer (some ⟨a,0,none⟩)),pv,(.int .u64 x.se),(.int .u8 x.ow),(.int .u8 x.sl),(.int .u8 x.bu),(.int .i64 x.lf),(.agg #[.int .i64 x.nu,.int .i64 x.de]),(.agg #[.int .u64 x.se,.int .u8 x.ow,.int .u8 x.sl,.int .u8 x.bu,.int .i64 x.lf,.int .i64 x.nu,.int .i64 x.de]),c23,c24,c25,c26,c27,c28,c29,c30,c31,c32,c33,c34,c35,c36,c37,c38,c39,c40,c41,c42,c43,c44,c45,c46,c47,c48,c49,c50,c51,c52,c53,c54,c55,c56,c57,c58,c59,c60,c61],[]⟩ w6) :
  Code.wp Tryz.prog (((Tryz.f243.body).bind (regionNo 1)).getD .skip) Q ⟨#[pv,(.int .u8 x.ow),(.int .u8 x.sl),(.int .u8 x.bu),(.int .i64 x.lf),c5,c6,c7,c8,c9,c10,(.pointer (some ⟨R,0,none⟩)),c12,c13,c14,c15,c16,c17,c18,c19,c20,c21,c22,c23,c24,c25,c26,c27,c28,c29,c30,c31,c32,c33,c34,c35,c36,c37,c38,c39,c40,c41,c42,c43,c44,c45,c46,c47,c48,c49,c50,c51,c52,c53,c54,c55,c56,c57,c58,c59,c60,c61],[]⟩ W:=by
 conv=>arg 2; whnf
 have HQ:=Lib.hid hq
 clear hq
 refine region_ghost (by kernel_rfl) (fun g:Nat→Nat=>[pv,(.int .u64 x.se),(.int .u8 x.ow),(.int .u8 x.sl),(.int .u8 x.bu),(.int .i64 x.lf),(.agg #[.int .i64 x.nu,.int .i64 x.de]),(.agg #[.int .u64 x.se,.int .u8 x.ow,.int .u8 x.sl,.int .u8 x.bu,.int .i64 x.lf,.int .i64 x.nu,.int .i64 x.de]),(.pointer (some ⟨g 8,0,none⟩)),undef])
  (Lays W [(⟨8,9,(.cells #[.int .u64 0,.int .u8 0,.int .u8 0,.int .u8 0,.int .i64 0,.int .i64 0,.int .i64 0] 197),(.cells #[.int .u64 x.se,.int .u8 x.ow,.int .u8 x.sl,.int .u8 x.bu,.int .i64 x.lf,.int .i64 x.nu,.int .i64 x.de] 197)⟩:Spec)]) (by kernel_rfl) (fun _=>0) (Lays.start _ _ _) ?_
 intro AF hAF
 simp only [List.toList_toArray,puts,Act.put,List.getD_cons_zero,List.getD_cons_succ,List.setIfInBounds_toArray,List.set_cons_succ,List.set_cons_zero] at hAF
 have hAF2:_=AF:=funext hAF
 subst hAF2
 clear hAF
 refine ⟨?_,?_⟩
 ·simp only [List.toList_toArray,EachG]
  refine ⟨?_,?_,?_,?_,?_,?_,?_,?_,?_,?_,trivial⟩
  ·intro g D w' hD hW hC hI
   refine ⟨g,fun _ _ _=>rfl,?_⟩
   with_reducible refine OpTo.plain ?_ ?_
   exact rfl
   have hS:=hI.below
   have HS:=Lib.hid (hI.step (Below.refl _ _) (k:=0) (by rfl))
   clear hI hS hC hW hD
   go_wp2_with fail
   all_goals first | exact HS.out | exact ⟨rfl,HS.out⟩ | rfl
  ·intro g D w' hD hW hC hI
   refine ⟨g,fun _ _ _=>rfl,?_⟩
   with_reducible refine OpTo.plain ?_ ?_
   exact rfl
   have hS:=hI.below
   have HI:=Lib.hid hI
   have HC:=Lib.hid (HN.out w' hS)
   clear hI hS hC hW hD
   go_wp2_with fail
   refine HC.out.mono ?_
   rintro e w'' ⟨rfl,rfl⟩
   exact ⟨rfl,HI.out.step (Below.refl _ _) (by rfl)⟩
  ·intro g D w' hD hW hC hI
   refine ⟨g,fun _ _ _=>rfl,?_⟩
   with_reducible refine OpTo.plain ?_ ?_
   exact rfl
   have hS:=hI.below
   have HS:=Lib.hid (hI.step (Below.refl _ _) (k:=2) (by rfl))
   clear hI hS hC hW hD
   go_wp2_with fail
   all_goals first | exact HS.out | exact ⟨rfl,HS.out⟩ | rfl
  ·intro g D w' hD hW hC hI
   refine ⟨g,fun _ _ _=>rfl,?_⟩
   with_reducible refine OpTo.plain ?_ ?_
   exact rfl
   have hS:=hI.below
   have HS:=Lib.hid (hI.step (Below.refl _ _) (k:=3) (by rfl))
   clear hI hS hC hW hD
   go_wp2_with fail
   all_goals first | exact HS.out | exact ⟨rfl,HS.out⟩ | rfl
  ·intro g D w' hD hW hC hI
   refine ⟨g,fun _ _ _=>rfl,?_⟩
   with_reducible refine OpTo.plain ?_ ?_
   exact rfl
   have hS:=hI.below
   have HS:=Lib.hid (hI.step (Below.refl _ _) (k:=4) (by rfl))
   clear hI hS hC hW hD
   go_wp2_with fail
   all_goals first | exact HS.out | exact ⟨rfl,HS.out⟩ | rfl
  ·intro g D w' hD hW hC hI
   refine ⟨g,fun _ _ _=>rfl,?_⟩
   with_reducible refine OpTo.plain ?_ ?_
   exact rfl
   have hS:=hI.below
   have HS:=Lib.hid (hI.step (Below.refl _ _) (k:=5) (by rfl))
   clear hI hS hC hW hD
   go_wp2_with fail
   all_goals first | exact HS.out | exact ⟨rfl,HS.out⟩ | rfl
  ·intro g D w' hD hW hC hI
   refine ⟨g,fun _ _ _=>rfl,?_⟩
   with_reducible refine OpTo.plain ?_ ?_
   exact rfl
   have hS:=hI.below
   have hl0:=Nat.lt_of_lt_of_le KR.out.lt hS.size
   have d0_0:=(KR.out.below hS KR.out.lt).cell 0
   have d0_1:=(KR.out.below hS KR.out.lt).cell 1
   simp at d0_0 d0_1
   have HS:=Lib.hid (hI.step (Below.refl _ _) (k:=6) (by rfl))
   clear hI hS hC hW hD
   go_wp2_with fail
   all_goals first | exact HS.out | exact ⟨rfl,HS.out⟩ | rfl
  ·intro g D w' hD hW hC hI
   refine ⟨g,fun _ _ _=>rfl,?_⟩
   with_reducible refine OpTo.plain ?_ ?_
   exact rfl
   have hS:=hI.below
   have HS:=Lib.hid (hI.step (Below.refl _ _) (k:=7) (by rfl))
   clear hI hS hC hW hD
   go_wp2_with fail
   all_goals first | exact HS.out | exact ⟨rfl,HS.out⟩ | rfl
  ·intro g D w' hD hW hC hI
   have hN:D 9=false:=waits_not hC hD 12 9 (by kernel_rfl)
   refine ⟨upd g 8 w'.heap.size,vals_upd _ (fun g:Nat→Nat=>[pv,(.int .u64 x.se),(.int .u8 x.ow),(.int .u8 x.sl),(.int .u8 x.bu),(.int .i64 x.lf),(.agg #[.int .i64 x.nu,.int .i64 x.de]),(.agg #[.int .u64 x.se,.int .u8 x.ow,.int .u8 x.sl,.int .u8 x.bu,.int .i64 x.lf,.int .i64 x.nu,.int .i64 x.de]),(.pointer (some ⟨g 8,0,none⟩)),undef]) g 8 _ 12 hC hD ?_,?_⟩
   ·intro j hj
    match j,hj with
    | 0,_=>exact .inr rfl
    | 1,_=>exact .inr rfl
    | 2,_=>exact .inr rfl
    | 3,_=>exact .inr rfl
    | 4,_=>exact .inr rfl
    | 5,_=>exact .inr rfl
    | 6,_=>exact .inr rfl
    | 7,_=>exact .inr rfl
    | 8,_=>exact .inl (.inl rfl)
    | 9,_=>exact .inr rfl
    | j + 10,_=>exact .inr rfl
   with_reducible refine OpTo.plain ?_ ?_
   exact rfl
   have HS:=Lib.hid (hI.lay (⟨8,9,(.cells #[.int .u64 0,.int .u8 0,.int .u8 0,.int .u8 0,.int .i64 0,.int .i64 0,.int .i64 0] 197),(.cells #[.int .u64 x.se,.int .u8 x.ow,.int .u8 x.sl,.int .u8 x.bu,.int .i64 x.lf,.int .i64 x.nu,.int .i64 x.de] 197)⟩:Spec) (by simp) (by rfl) (.inr hN) (by rfl) (fun s' hs' _=>List.mem_singleton.1 hs') (.cells #[.int .u64 0,.int .u8 0,.int .u8 0,.int .u8 0,.int .i64 0,.int .i64 0,.int .i64 0] 197) rfl)
   clear hI hC hW hD hN
   go_wp2_with fail
   all_goals first | exact HS.out | exact ⟨rfl,HS.out⟩ | rfl
  ·intro g D w' hD hW hC hI
   have hP:D 8=true:=waited_done hC hW (d:=12) (by kernel_rfl)
   obtain ⟨hg,hk⟩:=hI.zeroed (⟨8,9,(.cells #[.int .u64 0,.int .u8 0,.int .u8 0,.int .u8 0,.int .i64 0,.int .i64 0,.int .i64 0] 197),(.cells #[.int .u64 x.se,.int .u8 x.ow,.int .u8 x.sl,.int .u8 x.bu,.int .i64 x.lf,.int .i64 x.nu,.int .i64 x.de] 197)⟩:Spec) (by simp) hP hD
   refine ⟨g,fun _ _ _=>rfl,?_⟩
   with_reducible refine OpTo.plain ?_ ?_
   exact rfl
   refine wp_store_row 197 (.tmp 14) (.tmp 22) rfl (g 8) #[.int .u64 x.se,.int .u8 x.ow,.int .u8 x.sl,.int .u8 x.bu,.int .i64 x.lf,.int .i64 x.nu,.int .i64 x.de] rfl rfl 197 _ hk (by kernel_rfl) rfl (by simp [Value.oneCell']) ⟨rfl,?_⟩
   exact hI.fill (⟨8,9,(.cells #[.int .u64 0,.int .u8 0,.int .u8 0,.int .u8 0,.int .i64 0,.int .i64 0,.int .i64 0] 197),(.cells #[.int .u64 x.se,.int .u8 x.ow,.int .u8 x.sl,.int .u8 x.bu,.int .i64 x.lf,.int .i64 x.nu,.int .i64 x.de] 197)⟩:Spec) (by simp) (by rfl) (show (9:Nat)≠8 by decide) (fun s' hs' _=>List.mem_singleton.1 hs') hP (below_keepRow _ _) (setRow_heap w' (g 8) _ _ 197 (0,0) hk)
 intro g D w6 hall hI
 obtain ⟨h1,h2⟩:=hI.full (⟨8,9,(.cells #[.int .u64 0,.int .u8 0,.int .u8 0,.int .u8 0,.int .i64 0,.int .i64 0,.int .i64 0] 197),(.cells #[.int .u64 x.se,.int .u8 x.ow,.int .u8 x.sl,.int .u8 x.bu,.int .i64 x.lf,.int .i64 x.nu,.int .i64 x.de] 197)⟩:Spec) (by simp) (hall 8 (by decide)) (hall 9 (by decide))
 exact HQ.out (g 8) w6 h1 h2 hI.below
set_option maxHeartbeats 8000000 in
set_option maxRecDepth 100000 in
theorem pplace_any {w:World} {base g:Nat} {l:List Of} {x:Of} {vl:Value} (h:PB w base g l x.se vl) (hI:BInv l x.se) (hx:x.Fits) :
  Calls Tryz.prog 243 #[.pointer (some ⟨g,0,none⟩),.int .u8 x.ow,.int .u8 x.sl,.int .u8 x.bu,.int .i64 x.lf,.agg #[.int .i64 x.nu,.int .i64 x.de]] w fun e w'=>e=.returned (.tuple #[.int .u64 (placeS l x),.int .i64 (placeE l x)])∧∃ vl',PB w' base g (placeL l x) (placeN l x) vl'∧Keep (Foot g vl) w w'∧Moved w vl vl':=by
 have bw:=(Below.refl w.heap.size w).alloc (Nat.le_refl _) (.cells #[.int .i64 x.nu,.int .i64 x.de] 73)
 have H1:=Lib.hid (h.below bw)
 have KR:=Lib.hid (Blk.new w #[.int .i64 x.nu,.int .i64 x.de] 73)
 have B1:=Lib.hid bw
 have HI:=Lib.hid hI
 have HX:=Lib.hid hx
 have HG:=Lib.hid (h.below bw).blk
 have HL:=Lib.hid (fun b (hb:Foot g vl b)=>(h.lt hb).2)
 clear bw h hI hx
 go_enter Tryz.func243,Tryz.ntmps243
 go_wp2_with fail
 generalize hWW:w.alloc (.cells #[.int .i64 x.nu,.int .i64 x.de] 73)=W at *
 clear hWW
 refine pplace_r1 (Lib.hid (fun w' k=>pnext_any (HG.out.below k HG.out.lt))) KR ?_
 intro a w2 ha hA b2
 have H2:=Lib.hid (H1.out.below b2)
 have B2:=Lib.hid (B1.out.trans (b2.mono B1.out.size))
 have HA:=Lib.hid hA
 have HAF:=Lib.hid (show ¬ Foot g vl a from fun hf=>by have:=HL.out a hf; have:=B1.out.size; omega)
 have CM:=Lib.hid (pmade_any H2.out.blk HI.out.n1)
 have CY:=Lib.hid (pmay_any x w2 HX.out)
 have kl:=hA.lt
 have a0:=hA.cell 0; have a1:=hA.cell 1; have a2:=hA.cell 2; have a3:=hA.cell 3; have a4:=hA.cell 4; have a5:=hA.cell 5; have a6:=hA.cell 6
 simp at a0 a1 a2 a3 a4 a5 a6
 have hlen:=HI.out.len
 clear ha hA b2 H1 B1 HG KR HL
 by_cases hm:¬ x.may
 ·have e1:placeE l x=1:=by unfold placeE; rw [if_pos hm]
  have E:=Lib.hid (show placeE l x=1∧placeS l x=0∧placeL l x=l∧placeN l x=x.se from ⟨e1,by unfold placeS; rw [e1]; rfl,by unfold placeL; rw [e1]; rfl,by unfold placeN; rw [e1]; rfl⟩)
  rw [decide_eq_false hm] at CY
  clear e1 hm
  go_wp2_with fail
  refine CM.out.mono ?_
  rintro e w2 ⟨rfl,rfl⟩
  go_wp2_with fail
  refine CY.out.mono ?_
  rintro e w3 ⟨rfl,b3⟩
  have H3:=Lib.hid (H2.out.below b3)
  have B3:=Lib.hid (B2.out.trans (b3.mono B2.out.size))
  clear b3 H2 B2 CM CY a0 a1 a2 a3 a4 a5 a6 kl
  go_wp2_with fail
  refine bodyPost_ret (v:=.tuple #[.int .u64 0,.int .i64 1]) (by simp [results,Tryz.results243,go_sem]) rfl ?_
  rw [E.out.1,E.out.2.1,E.out.2.2.1,E.out.2.2.2]
  exact ⟨rfl,vl,H3.out,Keep.of_below B3.out,Moved.refl _ _⟩
 have hm:=Decidable.not_not.1 hm
 rw [decide_eq_true hm] at CY
 obtain ⟨ao,cap,hvl,hc1,hc2,_⟩:=owns_open H2.out.row
 subst hvl
 unfold maxLen at hc2
 go_wp2_with fail
 refine CM.out.mono ?_
 rintro e w2 ⟨rfl,rfl⟩
 go_wp2_with fail
 refine CY.out.mono ?_
 rintro e w3 ⟨rfl,b3⟩
 have HG4:=Lib.hid (H2.out.below b3)
 have HA4:=Lib.hid (HA.out.below b3 HA.out.lt)
 have HA4b:=HAF
 have B3:=Lib.hid (B2.out.trans (b3.mono B2.out.size))
 clear b3 H2 B2 CM CY a0 a1 a2 a3 a4 a5 a6 kl HA HAF
 have hgl:=HG4.out.blk.lt
 have d0:=HG4.out.blk.cell 0
 have a0:=HA4.out.cell 0
 have hal:=HA4.out.lt
 simp at d0 a0
 by_cases hf:l.length=32∨x.se=18446744073709551615
 ·have e1:placeE l x=9:=by unfold placeE; rw [if_neg (by simpa using hm),if_pos hf]
  have E:=Lib.hid (show placeE l x=9∧placeS l x=0∧placeL l x=l∧placeN l x=x.se from ⟨e1,by unfold placeS; rw [e1]; rfl,by unfold placeL; rw [e1]; rfl,by unfold placeN; rw [e1]; rfl⟩)
  clear e1
  by_cases h32:l.length=32
  ·have q1:((l.length:Int)==32)=true:=by rw [h32]; rfl
   clear hf h32
   go_wp2_with fail
   refine bodyPost_ret (v:=.tuple #[.int .u64 0,.int .i64 9]) (by simp [results,Tryz.results243,go_sem]) rfl ?_
   rw [E.out.1,E.out.2.1,E.out.2.2.1,E.out.2.2.2]
   exact ⟨rfl,_,HG4.out,Keep.of_below B3.out,Moved.refl _ _⟩
  ·have q1:((l.length:Int)==32)=false:=by simp; omega
   have hse:x.se=18446744073709551615:=by rcases hf with h | h; exact absurd h h32; exact h
   have q2:(x.se==18446744073709551615)=true:=by simpa using hse
   have HSE:=Lib.hid hse
   clear hf h32 hse
   go_wp2_with fail
   refine bodyPost_ret (v:=.tuple #[.int .u64 0,.int .i64 9]) (by simp [results,Tryz.results243,go_sem]) rfl ?_
   rw [E.out.1,E.out.2.1,E.out.2.2.1,E.out.2.2.2]
   exact ⟨rfl,_,HG4.out,Keep.of_below B3.out,Moved.refl _ _⟩
 have e1:placeE l x=0:=by unfold placeE; rw [if_neg (by simpa using hm),if_neg hf]
 have E:=Lib.hid (show placeE l x=0∧placeS l x=x.se∧placeL l x=l++[x]∧placeN l x=x.se + 1 from ⟨e1,by unfold placeS; rw [if_pos e1],by unfold placeL; rw [if_pos e1],by unfold placeN; rw [if_pos e1]⟩)
 have q1:((l.length:Int)==32)=false:=by simp; omega
 have q2:(x.se==18446744073709551615)=false:=by simp; omega
 have hn:=HI.out.n2
 have hn1:=HI.out.n1
 have hse0:0≤x.se + 1:=by omega
 have hse1:x.se + 1≤18446744073709551615:=by omega
 clear e1 hf
 go_wp2_with fail
 clear d0 a0 hgl hal
 generalize w3=W at *
 have hgl:=HG4.out.blk.lt
 have d0:=HG4.out.blk.cell 0
 simp at d0
 have hal:=HA4.out.lt
 have a0:=HA4.out.cell 0; have a1:=HA4.out.cell 1; have a2:=HA4.out.cell 2; have a3:=HA4.out.cell 3; have a4:=HA4.out.cell 4; have a5:=HA4.out.cell 5; have a6:=HA4.out.cell 6
 simp at a0 a1 a2 a3 a4 a5 a6
 have hbs:=Nat.le_trans HG4.out.ge (Nat.le_of_lt hgl)
 go_region_law (refine step_append_off rfl (.tmp 47) (.tmp 49) 156 rfl base 197 Tryz.underlying156 rfl info_poff (.slice ao l.length cap) l rfl (owns_below HG4.out.row ((Below.refl _ _).drew.alloc (Nat.le_refl _) _)) W.heap.size 1 x rfl (Blk.new W.drew _ _) (by omega) (by simp; omega) ?_; intro v' w' ho hgr hat; have HAP:=Lib.hid (appended HG4.out ho hgr hat); have hB:=HAP.out.1; have d1:=hB.cell 0; have f1:=hB.frozen 0; have l1:=hB.lt; simp at d1; obtain ⟨ao',cap',hv',_⟩:=owns_open ho; obtain ⟨ln,hln⟩:∃ ln,(l++[x]).length=ln:=⟨_,rfl⟩; rw [hln] at hv'; subst hv'; clear hln; clear ho hgr hat hB d0)
 all_goals
  have HE:=Lib.hid HAP.out.2
  clear HAP d1 f1 l1
  have e0:=HE.out.1.blk.cell 1
  have e1:=HE.out.1.blk.lt
  have e2:=HE.out.1.blk.frozen 1
  have e3:=HE.out.2.2 HA4.out HA4b.out
  have e4:=e3.cell 0
  have e5:=e3.lt
  simp at e0 e4
  clear e3
  go_wp2
  refine bodyPost_ret (v:=.tuple #[.int .u64 x.se,.int .i64 0]) (by simp [results,Tryz.results243,go_sem]) rfl ?_
  have k3:Keep (·=g) (w'.setCell ⟨g,0,none⟩ (.slice ao' ln cap')) ((w'.setCell ⟨g,0,none⟩ (.slice ao' ln cap')).setCell ⟨g,1,none⟩ (.int .u64 (x.se + 1))):=Keep.setCell (S:=(·=g)) (Keep.refl _ _) (p:=⟨g,1,none⟩) (.inl rfl) _
  rw [E.out.1,E.out.2.1,E.out.2.2.1,E.out.2.2.2]
  exact ⟨rfl,_,HE.out.1.setN _,(Keep.of_below B3.out).trans (HE.out.2.1.1.trans (k3.mono fun k _ hk=>.inl hk)),HE.out.2.1.2.of_le B3.out.size⟩
end Go.Proofs.YtngnfdnfpiiclaaGreat
namespace Go.Proofs.YtngnfdnfpiiclaaGreat
theorem PlDone.next {ps:List Int} {ls:List Ln} {l:List Of} {N ow sl bu lf nu de:Int} {σ:SwS} {N' sq:Int} {τ:SwS} (h:PlDone ps ls l N ow sl bu lf nu de σ N' sq τ):LInv ps σ.ls∧BInv σ.l N'∧σ.fs=τ.fs:=by
 rcases h.ends with ⟨_,rfl,rfl,_⟩ | ⟨_,_,e,rfl,rfl,_⟩
 ·exact ⟨h.inv.linv,h.inv.binv,rfl⟩
 ·refine ⟨h.inv.linv,?_,rfl⟩
  have q:=BInv.place (l:=τ.l) (x:=⟨N,ow,sl,bu,τ.n,nu,de⟩) h.inv.binv
  unfold placeL placeN at q
  rw [if_pos e,if_pos e] at q
  exact q
end Go.Proofs.YtngnfdnfpiiclaaGreat
namespace Go.Proofs.YtngnfdnfpiiclaaGreat
def noneF:Int→Int→Int:=fun _ _=>1048576
def costE (c:Int→Int→Int) (e:Ed):Int→Int→Int:=if okEd e then updE c e.fr e.tt (min (c e.fr e.tt) e.co) else c
structure CostI (es pre:List Ed) (c:Int→Int→Int):Prop where
 is:∀ a b,c a b=1048576∨∃ e ∈ es,okEd e∧e.fr=a∧e.tt=b∧c a b=e.co
 le:∀ e ∈ pre,okEd e→c e.fr e.tt≤e.co
theorem CostI.init (es:List Ed):CostI es [] noneF:=⟨fun _ _=>.inl rfl,by simp⟩
theorem updE_same (c:Int→Int→Int) (a b n:Int):updE c a b n a b=n:=by unfold updE; rw [if_pos ⟨rfl,rfl⟩]
theorem CostI.step {es pre:List Ed} {c:Int→Int→Int} {e:Ed} (h:CostI es pre c) (he:e ∈ es):CostI es (pre++[e]) (costE c e):=by
 unfold costE
 split
 ·rename_i ho
  refine ⟨fun a b=>?_,fun d hd hod=>?_⟩
  ·by_cases hab:a=e.fr∧b=e.tt
   ·obtain ⟨rfl,rfl⟩:=hab
    rw [updE_same]
    by_cases hc:c e.fr e.tt≤e.co
    ·rw [Int.min_eq_left hc]; exact h.is _ _
    ·rw [Int.min_eq_right (by omega)]; exact .inr ⟨e,he,ho,rfl,rfl,rfl⟩
   ·unfold updE
    rw [if_neg hab]
    exact h.is a b
  ·by_cases hde:d.fr=e.fr∧d.tt=e.tt
   ·rw [hde.1,hde.2,updE_same]
    rcases List.mem_append.1 hd with hd | hd
    ·have:=h.le d hd hod
     rw [hde.1,hde.2] at this
     omega
    ·rw [List.mem_singleton] at hd
     subst hd
     omega
   ·unfold updE
    rw [if_neg hde]
    rcases List.mem_append.1 hd with hd | hd
    ·exact h.le d hd hod
    ·rw [List.mem_singleton] at hd
     subst hd
     exact absurd ⟨rfl,rfl⟩ hde
 ·rename_i ho
  refine ⟨h.is,fun d hd hod=>?_⟩
  rcases List.mem_append.1 hd with hd | hd
  ·exact h.le d hd hod
  ·rw [List.mem_singleton] at hd
   subst hd
   exact absurd hod ho
theorem CostI.bd {es pre:List Ed} {c:Int→Int→Int} (h:CostI es pre c) (hco:∀ e ∈ es,-128≤e.co∧e.co≤127) (a b:Int):-128≤c a b∧c a b≤1048576:=by
 rcases h.is a b with hc | ⟨e,he,_,_,_,hc⟩
 ·omega
 ·have:=hco e he
  omega
def sumU (c:Int→Int→Int) (u:Nat→Int):Nat→Int
 | 0=>0
 | n + 1=>sumU c u n + c (u n) (u (n + 1))
structure CheapL (c:Int→Int→Int) (L:List Int) (K:Nat) (u:Nat→Int):Prop where
 k1:1≤K
 k16:K≤16
 len:L.length=K
 at_:∀ i,i<K→L[i]? = some (u i)
 back:u K=u 0
 ends:∀ i,inP (u i)
 least:∀ i,u 0≤u i
 apart:∀ k i,k<i→i<K→u k≠u i
 cost:∀ i,i<K → -128≤c (u i) (u (i + 1))∧c (u i) (u (i + 1))≤127
 all:sumU c u K<0
theorem round_cheap {es:List Ed} {c:Int→Int→Int} (hC:CostI es es c) (hco:∀ e ∈ es,-128≤e.co∧e.co≤127) (h:roundW es≠[]):∃ K u,CheapL c (roundW es) K u:=by
 obtain ⟨K,l,_,_,_,hR,he⟩:=roundW_some h
 have hk1:=hR.k1
 rw [he]
 generalize passN es 16=s at *
 have hu:∀ i,i<K→itr s.ahd (K - i) l=s.ahd (itr s.ahd (K - (i + 1)) l):=fun i hi=>by
  rw [show K - i=(K - (i + 1)) + 1 by omega,itr_succ]
 have hcost:∀ i,i<K→c (itr s.ahd (K - i) l) (itr s.ahd (K - (i + 1)) l)≤s.w (itr s.ahd (K - (i + 1)) l) ∧ -128≤c (itr s.ahd (K - i) l) (itr s.ahd (K - (i + 1)) l)∧c (itr s.ahd (K - i) l) (itr s.ahd (K - (i + 1)) l)≤127:=fun i hi=>by
  obtain ⟨e,hm,e1,e2,e3⟩:=hR.edge (K - (i + 1))
  rw [show K - (i + 1) + 1=K - i by omega] at e1
  have hok:okEd e:=⟨by rw [e1]; exact hR.ends _,by rw [e2]; exact hR.ends _⟩
  have h1:=hC.le e hm hok
  have h2:=hco e hm
  rw [e1,e2] at h1
  have h3:=hC.bd hco (itr s.ahd (K - i) l) (itr s.ahd (K - (i + 1)) l)
  rw [← e3]
  omega
 refine ⟨K,fun i=>itr s.ahd (K - i) l,hk1,hR.k16,by rw [backL_len]; omega,fun i hi=>?_,?_,fun i=>hR.ends _,fun i=>?_,fun k i hki hi=>?_,fun i hi=>(hcost i hi).2,?_⟩
 ·rw [backL_get (by rw [show K - 1 + 1=K by omega]; exact hR.back) (by omega)]
  rw [show K - 1 + 1 - i=K - i by omega]
 ·show itr s.ahd (K - K) l=itr s.ahd (K - 0) l
  rw [Nat.sub_self,Nat.sub_zero,hR.back]
  rfl
 ·show itr s.ahd (K - 0) l≤_
  rw [Nat.sub_zero,hR.back]
  exact hR.least _
 ·exact fun hh=>itr_inj hR.back hR.apart (i:=K - i) (k:=K - k) (by omega) (by omega) (by omega) hh.symm
 ·have key:∀ n,n≤K→sumU c (fun i=>itr s.ahd (K - i) l) n + sumI s.ahd s.w (K - n) l≤sumI s.ahd s.w K l:=by
   intro n
   induction n with
   | zero=>intro _; simp [sumU]
   | succ n ih =>
    intro hn
    have h1:=ih (by omega)
    have h2:=(hcost n (by omega)).1
    have h3:=sumI_add s.ahd s.w (K - (n + 1)) 1 l
    rw [show K - (n + 1) + 1=K - n by omega] at h3
    have h4:sumI s.ahd s.w 1 (itr s.ahd (K - (n + 1)) l)=s.w (itr s.ahd (K - (n + 1)) l):=by simp [sumI]
    show (sumU c (fun i=>itr s.ahd (K - i) l) n + c (itr s.ahd (K - n) l) (itr s.ahd (K - (n + 1)) l)) + _≤_
    omega
  have h1:=key K (Nat.le_refl _)
  rw [Nat.sub_self] at h1
  have h2:=hR.cost
  have h3:sumI s.ahd s.w 0 l=0:=rfl
  omega
end Go.Proofs.YtngnfdnfpiiclaaGreat
