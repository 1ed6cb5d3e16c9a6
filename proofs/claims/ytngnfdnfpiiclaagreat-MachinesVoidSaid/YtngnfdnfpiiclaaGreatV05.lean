/-
  Pieces of one proof, without what is not wanted: Grd, Ref03, PGrE, Ref06, Rowed.
-/
import Derived.Test.YtngnfdnfpiiclaaGreatV01
import Derived.Test.YtngnfdnfpiiclaaGreatV02
import Derived.Test.YtngnfdnfpiiclaaGreatV03
import Derived.Test.YtngnfdnfpiiclaaGreatV04
import Derived.Deep.MidRow
import Derived.Deep.WholeRow
set_option linter.unusedSimpArgs false
set_option linter.unusedVariables false
namespace Go.Proofs.YtngnfdnfpiiclaaGreat
open Go.RowKit
def gridA (v:Int→Int→Value):Array Value:=Array.ofFn (n:=289) fun i=>v ((i.val / 17:Nat):Int) ((i.val % 17:Nat):Int)
theorem gridA_size (v:Int→Int→Value):(gridA v).size=289:=by simp [gridA]
theorem gridA_get (v:Int→Int→Value) {i:Nat} (h:i<289):(gridA v)[i]? = some (v ((i / 17:Nat):Int) ((i % 17:Nat):Int)):=by simp [gridA,h]
theorem gridA_at (v:Int→Int→Value) {p q:Nat} (hp:p<17) (hq:q<17):(gridA v)[p * 17 + q]? = some (v p q):=by
 rw [gridA_get _ (by omega),show (p * 17 + q) / 17=p by omega,show (p * 17 + q) % 17=q by omega]
theorem gridA_set (v:Int→Int→Value) {p q:Nat} (hp:p<17) (hq:q<17) (u:Value):(gridA v).setIfInBounds (p * 17 + q) u=gridA fun a b=>if a=p∧b=q then u else v a b:=by
 apply Array.ext_getElem?
 intro j
 by_cases hj:j<289
 ·rw [gridA_get _ hj]
  by_cases hi:p * 17 + q=j
  ·subst hi
   rw [Array.getElem?_setIfInBounds_self_of_lt (by rw [gridA_size]; omega),show (p * 17 + q) / 17=p by omega,show (p * 17 + q) % 17=q by omega,if_pos ⟨rfl,rfl⟩]
  ·rw [Array.getElem?_setIfInBounds_ne hi,gridA_get _ hj,if_neg]
   rintro ⟨e1,e2⟩
   omega
 ·rw [Array.getElem?_eq_none (by simp [gridA_size]; omega),Array.getElem?_eq_none (by rw [gridA_size]; omega)]
def rowA (v:Int→Int→Value) (p:Int):Array Value:=Array.ofFn (n:=17) fun i=>v p ((i.val:Nat):Int)
theorem rowA_size (v:Int→Int→Value) (p:Int):(rowA v p).size=17:=by simp [rowA]
theorem rowA_get (v:Int→Int→Value) (p:Int) {i:Nat} (h:i<17):(rowA v p)[i]? = some (v p i):=by simp [rowA,h]
def graC (f:Int→Int→Int) (b:Bool):Array Value:=Array.ofFn (n:=290) fun i=>if i.val=289 then .bool b else .int .i64 (f ((i.val / 17:Nat):Int) ((i.val % 17:Nat):Int))
theorem graC_size (f:Int→Int→Int) (b:Bool):(graC f b).size=290:=by simp [graC]
theorem graC_made (f:Int→Int→Int) (b:Bool):(graC f b)[289]? = some (.bool b):=by simp [graC]
theorem graC_get (f:Int→Int→Int) (b:Bool) {i:Nat} (h:i<289):(graC f b)[i]? = some (.int .i64 (f ((i / 17:Nat):Int) ((i % 17:Nat):Int))):=by
 have h1:i<290:=by omega
 have h2:i≠289:=by omega
 simp [graC,h1,h2]
theorem graC_at (f:Int→Int→Int) (b:Bool) {p q:Nat} (hp:p<17) (hq:q<17):(graC f b)[p * 17 + q]? = some (.int .i64 (f p q)):=by
 rw [graC_get _ _ (by omega),show (p * 17 + q) / 17=p by omega,show (p * 17 + q) % 17=q by omega]
theorem graC_set (f:Int→Int→Int) (b:Bool) {p q:Nat} (hp:p<17) (hq:q<17) (n:Int):(graC f b).setIfInBounds (p * 17 + q) (.int .i64 n)=graC (updE f p q n) b:=by
 apply Array.ext_getElem?
 intro j
 by_cases hj:j<289
 ·rw [graC_get _ _ hj]
  unfold updE
  by_cases hi:p * 17 + q=j
  ·subst hi
   rw [Array.getElem?_setIfInBounds_self_of_lt (by rw [graC_size]; omega),show (p * 17 + q) / 17=p by omega,show (p * 17 + q) % 17=q by omega,if_pos ⟨rfl,rfl⟩]
  ·rw [Array.getElem?_setIfInBounds_ne hi,graC_get _ _ hj,if_neg]
   rintro ⟨e1,e2⟩
   omega
 ·by_cases h2:j=289
  ·subst h2
   rw [Array.getElem?_setIfInBounds_ne (by omega),graC_made,graC_made]
  ·rw [Array.getElem?_eq_none (by simp [graC_size]; omega),Array.getElem?_eq_none (by rw [graC_size]; omega)]
theorem graC_congr {f g:Int→Int→Int} (b:Bool) (h:∀ p q:Nat,p<17→q<17→f p q=g p q):graC f b=graC g b:=by
 unfold graC
 congr 1
 funext i
 by_cases hi:i.val=289
 ·simp [hi]
 ·rw [if_neg hi,if_neg hi,h _ _ (by omega) (by omega)]
def capA (f:Int→Int→Int):Array Value:=gridA fun p q=>.int .i64 (f p q)
theorem capA_size (f:Int→Int→Int):(capA f).size=289:=gridA_size _
theorem capA_get (f:Int→Int→Int) {i:Nat} (h:i<289):(capA f)[i]? = some (.int .i64 (f ((i / 17:Nat):Int) ((i % 17:Nat):Int))):=gridA_get _ h
theorem cap_range {w:World} {g:Nat} {f:Int→Int→Int} {b:Bool} {t:TypeId} (h:Blk w g (graC f b) t):w.rangeAt g 0 (capA f).toList:=by
 intro j v hv
 have hj:j<289:=by
  rcases Nat.lt_or_ge j 289 with h | h
  ·exact h
  ·rw [List.getElem?_eq_none (by simp [capA_size]; omega)] at hv; cases hv
 rw [Nat.zero_add,h.cell j,graC_get _ _ hj]
 rw [Array.getElem?_toList,capA_get _ hj] at hv
 exact hv
theorem Blk.cap {w:World} {g:Nat} {f:Int→Int→Int} {b:Bool} {t:TypeId} (h:Blk w g (graC f b) t) {p q:Int} (h0:0≤p) (h1:p<17) (h2:0≤q) (h3:q<17):w.cell? ⟨g,p.toNat * 17 + q.toNat,none⟩=some (.int .i64 (f p q)):=by
 rw [h.cell,graC_at f b (by omega) (by omega),Int.toNat_of_nonneg h0,Int.toNat_of_nonneg h2]
theorem Blk.capSet {w:World} {g:Nat} {f:Int→Int→Int} {b:Bool} {t:TypeId} (h:Blk w g (graC f b) t) {p q:Int} (h0:0≤p) (h1:p<17) (h2:0≤q) (h3:q<17) (n:Int) :
  Blk (w.setCell ⟨g,p.toNat * 17 + q.toNat,none⟩ (.int .i64 n)) g (graC (updE f p q n) b) t:=by
 have:=h.set (p.toNat * 17 + q.toNat) (.int .i64 n)
 rw [graC_set f b (by omega) (by omega),Int.toNat_of_nonneg h0,Int.toNat_of_nonneg h2] at this
 exact this
theorem Blk.madeG {w:World} {g:Nat} {f:Int→Int→Int} {b:Bool} {t:TypeId} (h:Blk w g (graC f b) t):w.cell? ⟨g,289,none⟩=some (.bool b):=by rw [h.cell,graC_made]
theorem build_gra0 (w:World):(Instr.build 327 #[(1,.bool true)]).run Tryz.prog w=.ok (.agg (graC zeroF true)) w:=by
 have h:(Instr.build 327 #[(1,.bool true)]).run Tryz.prog=fun w=>.ok (.agg (graC zeroF true)) w:=by kernel_rfl
 rw [h]
theorem build_gra (f:Int→Int→Int) (w:World):(Instr.build 327 #[(0,.agg (capA f)),(1,.bool true)]).run Tryz.prog w=.ok (.agg (graC f true)) w:=by
 have h:(Instr.build 327 #[(0,.agg (capA f)),(1,.bool true)]).run Tryz.prog=fun w=>.ok (.agg (graC f true)) w:=by kernel_rfl
 rw [h]
theorem zero_caps:(∀ w,(zeroValue 325).run Tryz.prog w=.ok (.agg (capA zeroF)) w)∧(Tryz.prog.info? 325).map (·.size)=some 289 :=
 zero_of_info (by kernel_rfl)
theorem info_caps (f:Int→Int→Int):(Tryz.prog.info? 325).map (·.size)=some (capA f).size:=by rw [capA_size]; exact zero_caps.2
theorem info_caps_l (f:Int→Int→Int):(Tryz.prog.info? 325).map (·.size)=some (capA f).toList.length:=by rw [Array.length_toList]; exact info_caps f
attribute [irreducible] graC capA rowA gridA
end Go.Proofs.YtngnfdnfpiiclaaGreat
namespace Go.Proofs.YtngnfdnfpiiclaaGreat
open Go.RowKit
def mayG (p:Int):Bool:=decide (1≤p∧p≤16)
theorem mayG_true {p:Int} (h:inP p):mayG p=true:=by unfold mayG; unfold inP at h; simp; omega
theorem mayG_false {p:Int} (h:¬ inP p):mayG p=false:=by unfold mayG; unfold inP at h; simp; omega
theorem gmay_any (p:Int) (w:World):Calls Tryz.prog 291 #[.int .u8 p] w fun e w'=>e=.returned (.bool (mayG p))∧w=w':=by
 have hs:(¬ 1≤p∧mayG p=false)∨(1≤p∧p≤16∧mayG p=true)∨(1≤p∧¬ p≤16∧mayG p=false):=by unfold mayG; simp; omega
 rcases hs with ⟨h1,h2⟩ | ⟨h1,h3,h2⟩ | ⟨h1,h3,h2⟩
 all_goals
  rw [h2]
  clear h2
  go_enter Tryz.func291,Tryz.ntmps291
  go_wp2
  go_ret
  exact ⟨rfl,rfl⟩
def outF (f:Int→Int→Int):Prop:=∀ p q,¬ (inP p∧inP q)→f p q=0
theorem GInv.outF {f:Int→Int→Int} {B:Int} (h:GInv f B):outF f:=h.out
set_option maxHeartbeats 2000000 in
theorem gcap_any {w:World} {g:Nat} {f:Int→Int→Int} {b:Bool} (h:Blk w g (graC f b) 327) (ho:outF f) (p q:Int) :
  Calls Tryz.prog 261 #[.pointer (some ⟨g,0,none⟩),.int .u8 p,.int .u8 q] w fun e w'=>e=.returned (.int .i64 (f p q))∧w=w':=by
 have C1:=Lib.hid (gmay_any p w)
 have C2:=Lib.hid (gmay_any q w)
 have hlt:=h.lt
 by_cases hp:inP p
 ·by_cases hq:inP q
  ·rw [mayG_true hp] at C1
   rw [mayG_true hq] at C2
   obtain ⟨p1,p2⟩:=hp
   obtain ⟨q1,q2⟩:=hq
   have d:=h.cap (p:=p) (q:=q) (by omega) (by omega) (by omega) (by omega)
   have p3:0≤p:=by omega
   have p4:p<17:=by omega
   have q3:0≤q:=by omega
   have q4:q<17:=by omega
   clear h ho
   generalize f p q=n at *
   go_enter Tryz.func261,Tryz.ntmps261
   go_wp2_with fail
   refine C1.out.mono ?_
   rintro e w ⟨rfl,rfl⟩
   go_wp2_with fail
   refine C2.out.mono ?_
   rintro e w ⟨rfl,rfl⟩
   go_wp2_with fail
   go_ret
   exact ⟨rfl,rfl⟩
  ·rw [mayG_true hp] at C1
   rw [mayG_false hq] at C2
   rw [ho p q (fun e=>hq e.2)]
   clear h ho hp hq
   go_enter Tryz.func261,Tryz.ntmps261
   go_wp2_with fail
   refine C1.out.mono ?_
   rintro e w ⟨rfl,rfl⟩
   go_wp2_with fail
   refine C2.out.mono ?_
   rintro e w ⟨rfl,rfl⟩
   go_wp2_with fail
   go_ret
   exact ⟨rfl,rfl⟩
 ·rw [mayG_false hp] at C1
  rw [ho p q (fun e=>hp e.1)]
  clear h ho hp
  go_enter Tryz.func261,Tryz.ntmps261
  go_wp2_with fail
  refine C1.out.mono ?_
  rintro e w ⟨rfl,rfl⟩
  go_wp2_with fail
  go_ret
  exact ⟨rfl,rfl⟩
theorem gcap_nil (p q:Int) (w:World):Calls Tryz.prog 261 #[.pointer none,.int .u8 p,.int .u8 q] w fun e w'=>e=.returned (.int .i64 0)∧w=w':=by
 go_enter Tryz.func261,Tryz.ntmps261
 go_wp2
 go_ret
 exact ⟨rfl,rfl⟩
def gPushE (f:Int→Int→Int) (a b n:Int):Int:=if n<1 then 1 else if f a b<n then 11 else 0
def gPushF (f:Int→Int→Int) (a b n:Int):Int→Int→Int:=if 1≤n∧n≤f a b then pushF f a b n else f
set_option maxHeartbeats 8000000 in
set_option maxRecDepth 100000 in
theorem gpush_any {w:World} {g:Nat} {f:Int→Int→Int} {B:Int} (h:Blk w g (graC f true) 327) (hI:GInv f B) (hB:B≤4611686018427387903) {a b n:Int} (hn:In64 n) :
  Calls Tryz.prog 227 #[.pointer (some ⟨g,0,none⟩),.int .u8 a,.int .u8 b,.int .i64 n] w fun e w'=>e=.returned (.int .i64 (gPushE f a b n))∧Blk w' g (graC (gPushF f a b n) true) 327∧Keep (·=g) w w':=by
 have KB:=Lib.hid h
 have dm:=h.madeG
 have hlt:=h.lt
 have C:=Lib.hid (gcap_any h hI.outF a b)
 obtain ⟨n0,n1⟩:=hn
 by_cases h1:n<1
 ·have EE:=Lib.hid (show gPushE f a b n=1∧gPushF f a b n=f from ⟨by unfold gPushE; rw [if_pos h1],by unfold gPushF; rw [if_neg (by omega)]⟩)
  clear h hI C
  go_enter Tryz.func227,Tryz.ntmps227
  go_wp2
  go_ret
  exact ⟨by rw [EE.out.1]; rfl,by rw [EE.out.2]; exact KB.out,Keep.refl _ _⟩
 by_cases h2:f a b<n
 ·have EE:=Lib.hid (show gPushE f a b n=11∧gPushF f a b n=f from ⟨by unfold gPushE; rw [if_neg h1,if_pos h2],by unfold gPushF; rw [if_neg (by omega)]⟩)
  clear h hI
  obtain ⟨x,hx⟩:∃ x,f a b=x:=⟨_,rfl⟩
  rw [hx] at C h2
  clear hx
  go_enter Tryz.func227,Tryz.ntmps227
  go_wp2_with fail
  refine C.out.mono ?_
  rintro e w ⟨rfl,rfl⟩
  go_wp2_with fail
  go_ret
  exact ⟨by rw [EE.out.1]; rfl,by rw [EE.out.2]; exact KB.out,Keep.refl _ _⟩
 obtain ⟨⟨a1,a2⟩,⟨b1,b2⟩,hab⟩:=hI.ends (p:=a) (q:=b) (by omega)
 have hbd:=hI.pair a b
 have hnn:=hI.nn b a
 have EE:=Lib.hid (show gPushE f a b n=0∧gPushF f a b n=updE (updE f a b (f a b - n)) b a (f b a + n) from ⟨by unfold gPushE; rw [if_neg h1,if_neg h2],by unfold gPushF; rw [if_pos (by omega)]; rfl⟩)
 obtain ⟨x,hx⟩:∃ x,f a b=x:=⟨_,rfl⟩
 obtain ⟨y,hy⟩:∃ y,f b a=y:=⟨_,rfl⟩
 have hy2:updE f a b (x - n) b a=y:=by unfold updE; rw [if_neg (fun e=>hab e.1.symm),hy]
 rw [hx,hy] at EE
 rw [hx] at C h2 hbd
 rw [hy] at hbd hnn
 have HX:=Lib.hid hx
 have HY2:=Lib.hid hy2
 have HAB:=Lib.hid hab
 clear h hI hx hy hy2 hab
 go_enter Tryz.func227,Tryz.ntmps227
 go_wp2_with fail
 refine C.out.mono ?_
 rintro e w ⟨rfl,rfl⟩
 go_wp2_with fail
 refine region_end (by kernel_rfl) 14 16 [(.pointer (some ⟨g,0,none⟩)),(.int .u8 a),(.int .u8 b),(.pointer (some ⟨g,0,none⟩)),(.pointer (some ⟨g,0,none⟩)),(.pointer (some ⟨g,a.toNat * 17,none⟩)),(.pointer (some ⟨g,a.toNat * 17 + b.toNat,none⟩)),(.int .i64 x),(.int .i64 n),(.int .i64 (x - n)),(.pointer (some ⟨g,0,none⟩)),(.pointer (some ⟨g,0,none⟩)),(.pointer (some ⟨g,a.toNat * 17,none⟩)),(.pointer (some ⟨g,a.toNat * 17 + b.toNat,none⟩))]
  (fun w'=>Below w.heap.size w w') (by kernel_rfl) rfl (by kernel_rfl) (Below.refl _ _).drew ?_
 intro af haf
 simp only [List.toList_toArray,List.append_eq,List.cons_append,List.nil_append,puts,Act.put,List.getD_cons_zero,List.getD_cons_succ,List.setIfInBounds_toArray,List.set_cons_succ,List.set_cons_zero] at haf
 subst haf
 refine ⟨?_,?_⟩
 ·simp only [List.toList_toArray,List.take_succ_cons,List.take_zero,EachTo]
  refine ⟨?_,?_,?_,?_,?_,?_,?_,?_,?_,?_,?_,?_,?_,?_,trivial⟩
  ·intro w' hS
   refine OpTo.plain ?_ ?_
   exact rfl
   have HS:=Lib.hid hS
   clear hS
   go_wp2_with fail
   all_goals first | exact HS.out | exact ⟨rfl,HS.out⟩ | rfl | exact ⟨by omega,HS.out⟩
  ·intro w' hS
   refine OpTo.plain ?_ ?_
   exact rfl
   have HS:=Lib.hid hS
   clear hS
   go_wp2_with fail
   all_goals first | exact HS.out | exact ⟨rfl,HS.out⟩ | rfl | exact ⟨by omega,HS.out⟩
  ·intro w' hS
   refine OpTo.plain ?_ ?_
   exact rfl
   have HS:=Lib.hid hS
   clear hS
   go_wp2_with fail
   all_goals first | exact HS.out | exact ⟨rfl,HS.out⟩ | rfl | exact ⟨by omega,HS.out⟩
  ·intro w' hS
   refine OpTo.plain ?_ ?_
   exact rfl
   have kb:=KB.out.below hS KB.out.lt
   have hl:=kb.lt
   have HS:=Lib.hid hS
   clear hS
   go_wp2_with fail
   all_goals first | exact HS.out | exact ⟨rfl,HS.out⟩ | rfl | exact ⟨by omega,HS.out⟩
  ·intro w' hS
   refine OpTo.plain ?_ ?_
   exact rfl
   have kb:=KB.out.below hS KB.out.lt
   have hl:=kb.lt
   have HS:=Lib.hid hS
   clear hS
   go_wp2_with fail
   all_goals first | exact HS.out | exact ⟨rfl,HS.out⟩ | rfl | exact ⟨by omega,HS.out⟩
  ·intro w' hS
   refine OpTo.plain ?_ ?_
   exact rfl
   have kb:=KB.out.below hS KB.out.lt
   have hl:=kb.lt
   have HS:=Lib.hid hS
   clear hS
   go_wp2_with fail
   all_goals first | exact HS.out | exact ⟨rfl,HS.out⟩ | rfl | exact ⟨by omega,HS.out⟩
  ·intro w' hS
   refine OpTo.plain ?_ ?_
   exact rfl
   have kb:=KB.out.below hS KB.out.lt
   have hl:=kb.lt
   have HS:=Lib.hid hS
   clear hS
   go_wp2_with fail
   all_goals first | exact HS.out | exact ⟨rfl,HS.out⟩ | rfl | exact ⟨by omega,HS.out⟩
  ·intro w' hS
   refine OpTo.plain ?_ ?_
   exact rfl
   have kb:=KB.out.below hS KB.out.lt
   have hl:=kb.lt
   have d:=kb.cap (p:=a) (q:=b) (by omega) (by omega) (by omega) (by omega)
   rw [HX.out] at d
   have HS:=Lib.hid hS
   clear hS
   go_wp2_with fail
   all_goals first | exact HS.out | exact ⟨rfl,HS.out⟩ | rfl | exact ⟨by omega,HS.out⟩
  ·intro w' hS
   refine OpTo.plain ?_ ?_
   exact rfl
   have HS:=Lib.hid hS
   clear hS
   go_wp2_with fail
   all_goals first | exact HS.out | exact ⟨rfl,HS.out⟩ | rfl | exact ⟨by omega,HS.out⟩
  ·intro w' hS
   refine OpTo.plain ?_ ?_
   exact rfl
   have HS:=Lib.hid hS
   clear hS
   go_wp2_with fail
   all_goals first | exact HS.out | exact ⟨rfl,HS.out⟩ | rfl | exact ⟨by omega,HS.out⟩
  ·intro w' hS
   refine OpTo.plain ?_ ?_
   exact rfl
   have kb:=KB.out.below hS KB.out.lt
   have hl:=kb.lt
   have HS:=Lib.hid hS
   clear hS
   go_wp2_with fail
   all_goals first | exact HS.out | exact ⟨rfl,HS.out⟩ | rfl | exact ⟨by omega,HS.out⟩
  ·intro w' hS
   refine OpTo.plain ?_ ?_
   exact rfl
   have kb:=KB.out.below hS KB.out.lt
   have hl:=kb.lt
   have HS:=Lib.hid hS
   clear hS
   go_wp2_with fail
   all_goals first | exact HS.out | exact ⟨rfl,HS.out⟩ | rfl | exact ⟨by omega,HS.out⟩
  ·intro w' hS
   refine OpTo.plain ?_ ?_
   exact rfl
   have kb:=KB.out.below hS KB.out.lt
   have hl:=kb.lt
   have HS:=Lib.hid hS
   clear hS
   go_wp2_with fail
   all_goals first | exact HS.out | exact ⟨rfl,HS.out⟩ | rfl | exact ⟨by omega,HS.out⟩
  ·intro w' hS
   refine OpTo.plain ?_ ?_
   exact rfl
   have kb:=KB.out.below hS KB.out.lt
   have hl:=kb.lt
   have HS:=Lib.hid hS
   clear hS
   go_wp2_with fail
   all_goals first | exact HS.out | exact ⟨rfl,HS.out⟩ | rfl | exact ⟨by omega,HS.out⟩
 simp only [List.getD_cons_succ,List.getD_cons_zero,List.toList_toArray]
 intro w' hS
 refine OpTo.plain ?_ ?_
 exact rfl
 have kb:=Lib.hid ((KB.out.below hS KB.out.lt).capSet (p:=a) (q:=b) (by omega) (by omega) (by omega) (by omega) (x - n))
 have dm:=(KB.out.below hS KB.out.lt).cap (p:=a) (q:=b) (by omega) (by omega) (by omega) (by omega)
 have fr:=(KB.out.below hS KB.out.lt).frozen (a.toNat * 17 + b.toNat)
 have kk:=Lib.hid ((Keep.of_below (S:=(·=g)) hS).setCell (p:=⟨g,a.toNat * 17 + b.toNat,none⟩) (.inl rfl) (.int .i64 (x - n)))
 clear hS
 go_wp2_with fail
 generalize w'.setCell ⟨g,a.toNat * 17 + b.toNat,none⟩ (.int .i64 (x - n))=w2 at *
 have KC:=Lib.hid KB.out
 clear KB
 have KB:=Lib.hid kb.out
 clear kb dm fr C
 refine region_end (by kernel_rfl) 14 16 [(.pointer (some ⟨g,0,none⟩)),(.int .u8 b),(.int .u8 a),(.pointer (some ⟨g,0,none⟩)),(.pointer (some ⟨g,0,none⟩)),(.pointer (some ⟨g,b.toNat * 17,none⟩)),(.pointer (some ⟨g,b.toNat * 17 + a.toNat,none⟩)),(.int .i64 y),(.int .i64 n),(.int .i64 (y + n)),(.pointer (some ⟨g,0,none⟩)),(.pointer (some ⟨g,0,none⟩)),(.pointer (some ⟨g,b.toNat * 17,none⟩)),(.pointer (some ⟨g,b.toNat * 17 + a.toNat,none⟩))]
  (fun w'=>Below w2.heap.size w2 w') (by kernel_rfl) rfl (by kernel_rfl) (Below.refl _ _).drew ?_
 intro af haf
 simp only [List.toList_toArray,List.append_eq,List.cons_append,List.nil_append,puts,Act.put,List.getD_cons_zero,List.getD_cons_succ,List.setIfInBounds_toArray,List.set_cons_succ,List.set_cons_zero] at haf
 subst haf
 refine ⟨?_,?_⟩
 ·simp only [List.toList_toArray,List.take_succ_cons,List.take_zero,EachTo]
  refine ⟨?_,?_,?_,?_,?_,?_,?_,?_,?_,?_,?_,?_,?_,?_,trivial⟩
  ·intro w' hS
   refine OpTo.plain ?_ ?_
   exact rfl
   have HS:=Lib.hid hS
   clear hS
   go_wp2_with fail
   all_goals first | exact HS.out | exact ⟨rfl,HS.out⟩ | rfl | exact ⟨by omega,HS.out⟩
  ·intro w' hS
   refine OpTo.plain ?_ ?_
   exact rfl
   have HS:=Lib.hid hS
   clear hS
   go_wp2_with fail
   all_goals first | exact HS.out | exact ⟨rfl,HS.out⟩ | rfl | exact ⟨by omega,HS.out⟩
  ·intro w' hS
   refine OpTo.plain ?_ ?_
   exact rfl
   have HS:=Lib.hid hS
   clear hS
   go_wp2_with fail
   all_goals first | exact HS.out | exact ⟨rfl,HS.out⟩ | rfl | exact ⟨by omega,HS.out⟩
  ·intro w' hS
   refine OpTo.plain ?_ ?_
   exact rfl
   have kb:=KB.out.below hS KB.out.lt
   have hl:=kb.lt
   have HS:=Lib.hid hS
   clear hS
   go_wp2_with fail
   all_goals first | exact HS.out | exact ⟨rfl,HS.out⟩ | rfl | exact ⟨by omega,HS.out⟩
  ·intro w' hS
   refine OpTo.plain ?_ ?_
   exact rfl
   have kb:=KB.out.below hS KB.out.lt
   have hl:=kb.lt
   have HS:=Lib.hid hS
   clear hS
   go_wp2_with fail
   all_goals first | exact HS.out | exact ⟨rfl,HS.out⟩ | rfl | exact ⟨by omega,HS.out⟩
  ·intro w' hS
   refine OpTo.plain ?_ ?_
   exact rfl
   have kb:=KB.out.below hS KB.out.lt
   have hl:=kb.lt
   have HS:=Lib.hid hS
   clear hS
   go_wp2_with fail
   all_goals first | exact HS.out | exact ⟨rfl,HS.out⟩ | rfl | exact ⟨by omega,HS.out⟩
  ·intro w' hS
   refine OpTo.plain ?_ ?_
   exact rfl
   have kb:=KB.out.below hS KB.out.lt
   have hl:=kb.lt
   have HS:=Lib.hid hS
   clear hS
   go_wp2_with fail
   all_goals first | exact HS.out | exact ⟨rfl,HS.out⟩ | rfl | exact ⟨by omega,HS.out⟩
  ·intro w' hS
   refine OpTo.plain ?_ ?_
   exact rfl
   have kb:=KB.out.below hS KB.out.lt
   have hl:=kb.lt
   have d:=kb.cap (p:=b) (q:=a) (by omega) (by omega) (by omega) (by omega)
   rw [HY2.out] at d
   have HS:=Lib.hid hS
   clear hS
   go_wp2_with fail
   all_goals first | exact HS.out | exact ⟨rfl,HS.out⟩ | rfl | exact ⟨by omega,HS.out⟩
  ·intro w' hS
   refine OpTo.plain ?_ ?_
   exact rfl
   have HS:=Lib.hid hS
   clear hS
   go_wp2_with fail
   all_goals first | exact HS.out | exact ⟨rfl,HS.out⟩ | rfl | exact ⟨by omega,HS.out⟩
  ·intro w' hS
   refine OpTo.plain ?_ ?_
   exact rfl
   have HS:=Lib.hid hS
   clear hS
   go_wp2_with fail
   all_goals first | exact HS.out | exact ⟨rfl,HS.out⟩ | rfl | exact ⟨by omega,HS.out⟩
  ·intro w' hS
   refine OpTo.plain ?_ ?_
   exact rfl
   have kb:=KB.out.below hS KB.out.lt
   have hl:=kb.lt
   have HS:=Lib.hid hS
   clear hS
   go_wp2_with fail
   all_goals first | exact HS.out | exact ⟨rfl,HS.out⟩ | rfl | exact ⟨by omega,HS.out⟩
  ·intro w' hS
   refine OpTo.plain ?_ ?_
   exact rfl
   have kb:=KB.out.below hS KB.out.lt
   have hl:=kb.lt
   have HS:=Lib.hid hS
   clear hS
   go_wp2_with fail
   all_goals first | exact HS.out | exact ⟨rfl,HS.out⟩ | rfl | exact ⟨by omega,HS.out⟩
  ·intro w' hS
   refine OpTo.plain ?_ ?_
   exact rfl
   have kb:=KB.out.below hS KB.out.lt
   have hl:=kb.lt
   have HS:=Lib.hid hS
   clear hS
   go_wp2_with fail
   all_goals first | exact HS.out | exact ⟨rfl,HS.out⟩ | rfl | exact ⟨by omega,HS.out⟩
  ·intro w' hS
   refine OpTo.plain ?_ ?_
   exact rfl
   have kb:=KB.out.below hS KB.out.lt
   have hl:=kb.lt
   have HS:=Lib.hid hS
   clear hS
   go_wp2_with fail
   all_goals first | exact HS.out | exact ⟨rfl,HS.out⟩ | rfl | exact ⟨by omega,HS.out⟩
 simp only [List.getD_cons_succ,List.getD_cons_zero,List.toList_toArray]
 intro w' hS
 refine OpTo.plain ?_ ?_
 exact rfl
 have kb:=Lib.hid ((KB.out.below hS KB.out.lt).capSet (p:=b) (q:=a) (by omega) (by omega) (by omega) (by omega) (y + n))
 have dm:=(KB.out.below hS KB.out.lt).cap (p:=b) (q:=a) (by omega) (by omega) (by omega) (by omega)
 have fr:=(KB.out.below hS KB.out.lt).frozen (b.toNat * 17 + a.toNat)
 have k2:=Lib.hid ((kk.out.trans (Keep.of_below (S:=(·=g)) hS)).setCell (p:=⟨g,b.toNat * 17 + a.toNat,none⟩) (.inl rfl) (.int .i64 (y + n)))
 clear hS
 go_wp2_with fail
 generalize w'.setCell ⟨g,b.toNat * 17 + a.toNat,none⟩ (.int .i64 (y + n))=w3 at *
 go_ret
 exact ⟨by rw [EE.out.1]; rfl,by rw [EE.out.2]; exact kb.out,k2.out⟩
def IsG (w:World) (v:Value) (f:Int→Int→Int):Prop:=(v=.pointer none∧f=zeroF)∨∃ g b,v=.pointer (some ⟨g,0,none⟩)∧Blk w g (graC f b) 327
theorem IsG.below {w w':World} {v:Value} {f:Int→Int→Int} (h:IsG w v f) (hb:Below w.heap.size w w'):IsG w' v f:=by
 rcases h with h | ⟨g,b,h1,h2⟩
 ·exact .inl h
 ·exact .inr ⟨g,b,h1,h2.below hb h2.lt⟩
theorem gcopy_nil (w:World):Calls Tryz.prog 224 #[.pointer none] w fun e w'=>e=.returned (.pointer none)∧w=w':=by
 go_enter Tryz.func224,Tryz.ntmps224
 go_wp2
 go_ret
 exact ⟨rfl,rfl⟩
set_option maxHeartbeats 2000000 in
set_option maxRecDepth 100000 in
theorem gcopy_any {w:World} {g:Nat} {f:Int→Int→Int} (h:Blk w g (graC f true) 327) :
  Calls Tryz.prog 224 #[.pointer (some ⟨g,0,none⟩)] w fun e w'=>e=.returned (.pointer (some ⟨w.heap.size,0,none⟩))∧Blk w' w.heap.size (graC f true) 327∧Below w.heap.size w w':=by
 have d:=h.madeG
 have hlt:=h.lt
 have R:=Lib.hid (cap_range h)
 clear h
 go_enter Tryz.func224,Tryz.ntmps224
 go_wp2_with first
  | ((with_reducible refine wpList_load_mid ?_ 325 (.tmp 14) ?_ g 0 ?_ (capA f).toList _ R.out Tryz.underlying325 ?_ (info_caps_l _) ?_); exact rfl; exact rfl; exact rfl; exact rfl; rw [Array.toArray_toList])
  | ((with_reducible refine wpList_build_of ?_ 327 #[(0,.tmp 15),(1,.const (.bool true))] ?_ #[(0,.agg (capA f)),(1,.bool true)] ?_ (graC f true) (build_gra f _) ?_); exact rfl; exact rfl; simp [Act.eval,Act.put])
 go_ret
 exact ⟨rfl,Blk.new _ _ _,(Below.refl _ _).alloc (Nat.le_refl _) _⟩
end Go.Proofs.YtngnfdnfpiiclaaGreat
namespace Go.Proofs.YtngnfdnfpiiclaaGreat
open Go.RowKit
end Go.Proofs.YtngnfdnfpiiclaaGreat
namespace Go.Proofs.YtngnfdnfpiiclaaGreat
open Go.RowKit
def lineV (o:Option Ln):Value:=match o with | some x=>.tuple #[x.val,.bool true] | none=>.tuple #[noLn.val,.bool false]
end Go.Proofs.YtngnfdnfpiiclaaGreat
namespace Go.Proofs.YtngnfdnfpiiclaaGreat
open Go.RowKit
theorem info_lineAll:(Tryz.prog.info? 71).map (fun i=>(i.zero,i.size,i.bytes))=some (some noLn.val,5,24):=by kernel_rfl
theorem wpList_append_line (w:World) {ops:Array Oper} {rest:List Oper} {o:Oper} {a:Act} {Q:Exit→Act→World→Prop} (hgd:o.guard=none) (s x:Operand)
  (ho:o.op=.call { callee:=.builtin .append,args:=#[s,x],argTypes:=#[42,42] }) (base:Nat) (v:Value) (ls:List Ln) (hs:a.eval s=v)
  (hown:w.ownsRow base 71 5 v ls.length (lnCells ls)) (g c:Nat) (y:Ln) (hx:a.eval x=.slice (some ⟨g,0,none⟩) 1 c) (hy:Blk w g #[.int .u8 y.cr,.int .u8 y.de,.int .u8 y.cu,.int .i64 y.li,.int .i64 y.db] 71) (hlen:ls.length≤100000) (hbase:base≤w.heap.size)
  (h:∀ v' w',w'.ownsRow base 71 5 v' (ls++[y]).length (lnCells (ls++[y]))→w.grownBy w' v.ownBlock→wpList Tryz.prog ops Q rest (a.put o.dst v') w'):wpList Tryz.prog ops Q (o::rest) a w:=by
 obtain ⟨i0,hi,hz0,hz1,hz2⟩:=info_parts info_lineAll
 refine wpList_append_own w hgd s x 42 ho base 71 i0 noLn.val 5 24 Tryz.underlying42 hi hz0 hz1 hz2 rfl (by decide) v ls.length (lnCells ls) hs hown ⟨g,0,none⟩ 1 c y.vals hx rfl ?_ ?_ (by unfold maxLen; omega) (by omega) hbase ?_
 ·intro j u hj
  have:=hy.cell j
  rw [Go.WideShapes.add_plain]
  match j,hj with
  | 0,hj=>simp [Ln.vals] at hj; subst hj; simpa using this
  | 1,hj=>simp [Ln.vals] at hj; subst hj; simpa using this
  | 2,hj=>simp [Ln.vals] at hj; subst hj; simpa using this
  | 3,hj=>simp [Ln.vals] at hj; subst hj; simpa using this
  | 4,hj=>simp [Ln.vals] at hj; subst hj; simpa using this
  | j + 5,hj=>simp [Ln.vals] at hj
 ·intro u hu
  simp [Ln.vals] at hu
  rcases hu with rfl | rfl | rfl | rfl | rfl <;> rfl
 ·intro v' w' h1 h2 _
  refine h v' w' ?_ h2
  rw [lnCells_append,lnCells_one,List.length_append]
  exact h1
end Go.Proofs.YtngnfdnfpiiclaaGreat
namespace Go.Proofs.YtngnfdnfpiiclaaGreat
open Go.RowKit
def openTo (ps:List Int) (p:Int) (k:Nat):List Int:=((List.range (k - 1)).map fun i:Nat=>(i:Int) + 1).filter fun q=>q==p || decide (q ∈ ps)
theorem openTo_next (ps:List Int) (p:Int) (k:Nat) (h:1≤k):openTo ps p (k + 1)=openTo ps p k++(if ((k:Int)==p || decide ((k:Int) ∈ ps))=true then [(k:Int)] else []):=by
 unfold openTo
 rw [show k + 1 - 1=(k - 1) + 1 by omega,List.range_succ,List.map_append,List.filter_append]
 congr 1
 rw [List.map_singleton,show ((k - 1:Nat):Int) + 1=(k:Int) by omega]
 simp only [List.filter_cons,List.filter_nil]
theorem openTo_len (ps:List Int) (p:Int) (k:Nat):(openTo ps p k).length≤k:=by
 unfold openTo
 refine Nat.le_trans (List.length_filter_le _ _) ?_
 simp
def openE (ps:List Int) (p:Int):Int:=if p<1∨16<p then 1 else if p ∈ ps then 8 else 0
def openP (ps:List Int) (p:Int):List Int:=if p<1∨16<p then ps else if p ∈ ps then ps else openTo ps p 17
theorem info_party:(Tryz.prog.info? 68).map (fun i=>(i.zero,i.size,i.bytes))=some (some (.int .u8 0),1,1):=by kernel_rfl
theorem wpList_append_party (w:World) {ops:Array Oper} {rest:List Oper} {o:Oper} {a:Act} {Q:Exit→Act→World→Prop} (hgd:o.guard=none) (s x:Operand)
  (ho:o.op=.call { callee:=.builtin .append,args:=#[s,x],argTypes:=#[41,41] }) (base:Nat) (v:Value) (ps:List Int) (hs:a.eval s=v)
  (hown:w.ownsRow base 68 1 v ps.length (ps.map (.int .u8))) (g c:Nat) (y:Int) (hx:a.eval x=.slice (some ⟨g,0,none⟩) 1 c) (hy:Blk w g #[.int .u8 y] 68) (hlen:ps.length≤100000) (hbase:base≤w.heap.size)
  (h:∀ v' w',w'.ownsRow base 68 1 v' (ps++[y]).length ((ps++[y]).map (.int .u8))→w.grownBy w' v.ownBlock→wpList Tryz.prog ops Q rest (a.put o.dst v') w'):wpList Tryz.prog ops Q (o::rest) a w:=by
 obtain ⟨i0,hi,hz0,hz1,hz2⟩:=info_parts info_party
 refine wpList_append_own w hgd s x 41 ho base 68 i0 (.int .u8 0) 1 1 Tryz.underlying41 hi hz0 hz1 hz2 rfl (by decide) v ps.length (ps.map (.int .u8)) hs hown ⟨g,0,none⟩ 1 c [.int .u8 y] hx rfl ?_ ?_ (by unfold maxLen; omega) (by omega) hbase ?_
 ·intro j u hj
  have:=hy.cell j
  rw [Go.WideShapes.add_plain]
  match j,hj with
  | 0,hj=>simp at hj; subst hj; simpa using this
  | j + 1,hj=>simp at hj
 ·intro u hu
  simp at hu
  subst hu; rfl
 ·intro v' w' h1 h2 _
  refine h v' w' ?_ h2
  rw [List.map_append,List.length_append]
  exact h1
end Go.Proofs.YtngnfdnfpiiclaaGreat
namespace Go.Proofs.YtngnfdnfpiiclaaGreat
open Go.RowKit
theorem clipF_any {w:World} {base:Nat} {v:Value} {n:Nat} {xs:List Value} (h:w.ownsRow base 209 3 v n xs) :
  Calls Tryz.prog 228 #[v] w (ClipPost w base 209 3 n v xs):=by
 rcases h.2 with ⟨rfl,h0⟩ | ⟨g,cap,cur,rfl,hbase,hb,h1,h2,h3,h4⟩
 ·subst h0
  have hr:=run_slice_clip_none (P:=Tryz.prog) w 203 209 3 Tryz.underlying203 (Tryz.sizeOf209 w)
  have hx:=h.1
  have hx2:=Lib.hid hx
  clear h hx
  go_enter Tryz.func228,Tryz.ntmps228
  go_wp2
  refine bodyPost_ret (v:=.slice none 0 0) (by simp [results,Tryz.results228,go_sem]) rfl ?_
  exact ⟨_,rfl,⟨hx2.out,.inl ⟨rfl,rfl⟩⟩,rfl,rfl⟩
 ·have hr:=run_slice_clip (P:=Tryz.prog) w 203 209 3 Tryz.underlying203 (Tryz.sizeOf209 w) g n cap h1
  have HR:=Lib.hid (show Rowed w base 209 3 (.slice (some ⟨g,0,none⟩) n n) n xs from ⟨h.1,.inr ⟨g,cur,rfl,hbase,hb,by omega,by omega,h4⟩⟩)
  clear h hb h4 h3
  unfold maxLen at h2
  go_enter Tryz.func228,Tryz.ntmps228
  go_wp2
  refine bodyPost_ret (v:=.slice (some ⟨g,0,none⟩) n n) (by simp [results,Tryz.results228,go_sem]) rfl ?_
  exact ⟨_,rfl,HR.out,rfl,rfl⟩
end Go.Proofs.YtngnfdnfpiiclaaGreat
namespace Go.Proofs.YtngnfdnfpiiclaaGreat
open Go.RowKit
end Go.Proofs.YtngnfdnfpiiclaaGreat
namespace Go.Proofs.YtngnfdnfpiiclaaGreat
open Go.RowKit
theorem Blk.capSetN {w:World} {g:Nat} {f:Int→Int→Int} {b:Bool} {t:TypeId} (h:Blk w g (graC f b) t) {p q:Nat} (hp:p<17) (hq:q<17) (n:Int) :
  Blk (w.setCell ⟨g,p * 17 + q,none⟩ (.int .i64 n)) g (graC (updE f p q n) b) t:=by
 have:=h.set (p * 17 + q) (.int .i64 n)
 rw [graC_set f b hp hq] at this
 exact this
theorem Blk.capN {w:World} {g:Nat} {f:Int→Int→Int} {b:Bool} {t:TypeId} (h:Blk w g (graC f b) t) {p q:Nat} (hp:p<17) (hq:q<17):w.cell? ⟨g,p * 17 + q,none⟩=some (.int .i64 (f p q)):=by
 rw [h.cell,graC_at f b hp hq]
def partF (rf:Int→Int→Int) (m:Nat) (a b:Int):Int:=if a * 17 + b<m then rf a b else 0
theorem partF_zero (rf:Int→Int→Int):graC (partF rf 0) true=graC zeroF true:=graC_congr true fun p q hp hq=>by unfold partF zeroF; rw [if_neg (by omega)]
theorem partF_next (rf:Int→Int→Int) {p q:Nat} (hp:p<17) (hq:q<17):graC (updE (partF rf (p * 17 + q)) p q (rf p q)) true=graC (partF rf (p * 17 + (q + 1))) true:=graC_congr true fun a b ha hb=>by
 unfold updE partF
 by_cases h:(a:Int)=p∧(b:Int)=q
 ·rw [if_pos h,if_pos (by omega),h.1,h.2]
 ·rw [if_neg h]
  by_cases h2:(a:Int) * 17 + b<((p * 17 + q:Nat):Int)
  ·rw [if_pos h2,if_pos (by omega)]
  ·rw [if_neg h2,if_neg (by omega)]
theorem partF_all (rf:Int→Int→Int):graC (partF rf (17 * 17)) true=graC rf true:=graC_congr true fun p q hp hq=>by unfold partF; rw [if_pos (by omega)]
def GOfAt (w:World) (rf:Int→Int→Int) (i:Value) (wr:World):Prop :=
 ∃ p:Nat,p≤17∧i=.int .i64 p∧Blk wr w.heap.size (graC (partF rf (p * 17)) true) 327∧Below w.heap.size w wr
def GOfIn (w:World) (rf:Int→Int→Int) (p:Nat) (i:Value) (wr:World):Prop :=
 ∃ q:Nat,q≤17∧i=.int .i64 q∧Blk wr w.heap.size (graC (partF rf (p * 17 + q)) true) 327∧Below w.heap.size w wr
set_option maxHeartbeats 16000000 in
set_option maxRecDepth 100000 in
theorem gof_any {w:World} {lv:Value} {c:Int} {rf:Int→Int→Int}
  (hr:∀ w',Below w.heap.size w w'→∀ p q:Int,In8 p→In8 q→Calls Tryz.prog 229 #[lv,.int .u8 p,.int .u8 q,.int .u8 c] w' fun e w''=>e=.returned (.int .i64 (rf p q))∧Below w'.heap.size w' w'') :
  Calls Tryz.prog 193 #[lv,.int .u8 c] w fun e w'=>e=.returned (.pointer (some ⟨w.heap.size,0,none⟩))∧Blk w' w.heap.size (graC rf true) 327∧Below w.heap.size w w':=by
 have HR:=Lib.hid hr
 clear hr
 have B0:=Lib.hid ((Below.refl w.heap.size w).alloc (Nat.le_refl _) (.cells (graC zeroF true) 327))
 have K0:=Blk.new w (graC zeroF true) 327
 have K0':=Lib.hid (show Blk (w.alloc (.cells (graC zeroF true) 327)) w.heap.size (graC (partF rf (0 * 17)) true) 327 from by
  rw [show 0 * 17=0 from rfl,partF_zero]; exact K0)
 clear K0
 go_enter Tryz.func193,Tryz.ntmps193
 go_wp2_with ((with_reducible refine wpList_build_of ?_ 327 #[(1,.const (.bool true))] ?_ #[(1,.bool true)] ?_ (graC zeroF true) (build_gra0 _) ?_); exact rfl; exact rfl; simp [Act.eval,Act.put])
 go_loopw [10] (GOfAt w rf) (fun i _=>17 - (intOf i).toNat)
 case atStart=>exact ⟨0,by omega,rfl,K0'.out,B0.out⟩
 case round =>
  clear K0' B0
  obtain ⟨p,hp,rfl,hG,hB⟩:=hrel
  have G1:=Lib.hid hG
  have B1:=Lib.hid hB
  clear hG hB
  by_cases hp2:p<17
  ·have hpi:(p:Int)<17:=by omega
   go_wp2_with fail
   go_loopw [13] (GOfIn w rf p) (fun i _=>17 - (intOf i).toNat)
   case atStart=>exact ⟨0,by omega,rfl,G1.out,B1.out⟩
   case round =>
    clear G1 B1
    obtain ⟨q,hq,rfl,hG,hB⟩:=hrel
    have G1:=Lib.hid hG
    have B1:=Lib.hid hB
    have hgl:=hG.lt
    clear hG hB
    by_cases hq2:q<17
    ·have hqi:(q:Int)<17:=by omega
     have CR:=Lib.hid (fun w' (k:Below wr.heap.size wr w')=>HR.out w' (B1.out.trans (k.mono B1.out.size)) p q (by unfold In8; omega) (by unfold In8; omega))
     have NX:=Lib.hid (partF_next rf hp2 hq2)
     obtain ⟨n,hn⟩:∃ n,rf p q=n:=⟨_,rfl⟩
     rw [hn] at CR NX
     clear hn
     go_wp2_with fail
     refine region_end (by kernel_rfl) 14 16 [(.pointer (some ⟨w.heap.size,0,none⟩)),(.int .i64 p),(.int .i64 q),lv,(.int .i64 p),(.int .u8 p),(.int .i64 q),(.int .u8 q),(.int .u8 c),(.int .i64 n),(.pointer (some ⟨w.heap.size,0,none⟩)),(.pointer (some ⟨w.heap.size,0,none⟩)),(.pointer (some ⟨w.heap.size,p * 17,none⟩)),(.pointer (some ⟨w.heap.size,p * 17 + q,none⟩))]
      (fun w'=>Below wr.heap.size wr w') (by kernel_rfl) rfl (by kernel_rfl) (Below.refl _ _).drew ?_
     intro af haf
     simp only [List.toList_toArray,List.append_eq,List.cons_append,List.nil_append,puts,Act.put,List.getD_cons_zero,List.getD_cons_succ,List.setIfInBounds_toArray,List.set_cons_succ,List.set_cons_zero] at haf
     subst haf
     refine ⟨?_,?_⟩
     ·simp only [List.toList_toArray,List.take_succ_cons,List.take_zero,EachTo]
      refine ⟨?_,?_,?_,?_,?_,?_,?_,?_,?_,?_,?_,?_,?_,?_,trivial⟩
      ·intro w' hS
       refine OpTo.plain ?_ ?_
       exact rfl
       have HS:=Lib.hid hS
       clear hS
       go_wp2_with fail
       all_goals first | exact HS.out | exact ⟨rfl,HS.out⟩ | rfl | exact ⟨by omega,HS.out⟩
      ·intro w' hS
       refine OpTo.plain ?_ ?_
       exact rfl
       have HS:=Lib.hid hS
       clear hS
       go_wp2_with fail
       all_goals first | exact HS.out | exact ⟨rfl,HS.out⟩ | rfl | exact ⟨by omega,HS.out⟩
      ·intro w' hS
       refine OpTo.plain ?_ ?_
       exact rfl
       have HS:=Lib.hid hS
       clear hS
       go_wp2_with fail
       all_goals first | exact HS.out | exact ⟨rfl,HS.out⟩ | rfl | exact ⟨by omega,HS.out⟩
      ·intro w' hS
       refine OpTo.plain ?_ ?_
       exact rfl
       have HS:=Lib.hid hS
       clear hS
       go_wp2_with fail
       all_goals first | exact HS.out | exact ⟨rfl,HS.out⟩ | rfl | exact ⟨by omega,HS.out⟩
      ·intro w' hS
       refine OpTo.plain ?_ ?_
       exact rfl
       have HS:=Lib.hid hS
       clear hS
       go_wp2_with fail
       all_goals first | exact HS.out | exact ⟨rfl,HS.out⟩ | rfl | exact ⟨by omega,HS.out⟩
      ·intro w' hS
       refine OpTo.plain ?_ ?_
       exact rfl
       have HS:=Lib.hid hS
       clear hS
       go_wp2_with fail
       all_goals first | exact HS.out | exact ⟨rfl,HS.out⟩ | rfl | exact ⟨by omega,HS.out⟩
      ·intro w' hS
       refine OpTo.plain ?_ ?_
       exact rfl
       have HS:=Lib.hid hS
       clear hS
       go_wp2_with fail
       all_goals first | exact HS.out | exact ⟨rfl,HS.out⟩ | rfl | exact ⟨by omega,HS.out⟩
      ·intro w' hS
       refine OpTo.plain ?_ ?_
       exact rfl
       have HS:=Lib.hid hS
       clear hS
       go_wp2_with fail
       all_goals first | exact HS.out | exact ⟨rfl,HS.out⟩ | rfl | exact ⟨by omega,HS.out⟩
      ·intro w' hS
       refine OpTo.plain ?_ ?_
       exact rfl
       have HS:=Lib.hid hS
       clear hS
       go_wp2_with fail
       all_goals first | exact HS.out | exact ⟨rfl,HS.out⟩ | rfl | exact ⟨by omega,HS.out⟩
      ·intro w' hS
       refine OpTo.plain ?_ ?_
       exact rfl
       have HS:=Lib.hid hS
       clear hS
       go_wp2_with fail
       refine (CR.out w' HS.out).mono ?_
       rintro e w'' ⟨rfl,hb2⟩
       exact ⟨rfl,andB HS.out hb2⟩
      ·intro w' hS
       refine OpTo.plain ?_ ?_
       exact rfl
       have kg:=G1.out.below hS G1.out.lt
       have hl:=kg.lt
       have HS:=Lib.hid hS
       clear hS
       go_wp2_with fail
       all_goals first | exact HS.out | exact ⟨rfl,HS.out⟩ | rfl | exact ⟨by omega,HS.out⟩
      ·intro w' hS
       refine OpTo.plain ?_ ?_
       exact rfl
       have kg:=G1.out.below hS G1.out.lt
       have hl:=kg.lt
       have HS:=Lib.hid hS
       clear hS
       go_wp2_with fail
       all_goals first | exact HS.out | exact ⟨rfl,HS.out⟩ | rfl | exact ⟨by omega,HS.out⟩
      ·intro w' hS
       refine OpTo.plain ?_ ?_
       exact rfl
       have kg:=G1.out.below hS G1.out.lt
       have hl:=kg.lt
       have HS:=Lib.hid hS
       clear hS
       go_wp2_with fail
       all_goals first | exact HS.out | exact ⟨rfl,HS.out⟩ | rfl | exact ⟨by omega,HS.out⟩
      ·intro w' hS
       refine OpTo.plain ?_ ?_
       exact rfl
       have kg:=G1.out.below hS G1.out.lt
       have hl:=kg.lt
       have HS:=Lib.hid hS
       clear hS
       go_wp2_with fail
       all_goals first | exact HS.out | exact ⟨rfl,HS.out⟩ | rfl | exact ⟨by omega,HS.out⟩
     simp only [List.getD_cons_succ,List.getD_cons_zero,List.toList_toArray]
     intro w' hS
     refine OpTo.plain ?_ ?_
     exact rfl
     have kb:=Lib.hid ((G1.out.below hS G1.out.lt).capSetN hp2 hq2 n)
     have dm:=(G1.out.below hS G1.out.lt).capN hp2 hq2
     have fr:=(G1.out.below hS G1.out.lt).frozen (p * 17 + q)
     have k4:=Lib.hid (((B1.out.trans (hS.mono B1.out.size)).setCell (p:=⟨w.heap.size,p * 17 + q,none⟩) (by simp) (.int .i64 n)))
     clear hS
     go_wp2_with fail
     generalize w'.setCell ⟨w.heap.size,p * 17 + q,none⟩ (.int .i64 n)=w4 at *
     go_roundw
     case rel=>exact ⟨q + 1,by omega,by go_num,by rw [← NX.out]; exact kb.out,k4.out⟩
     case measure=>simp [intOf]; omega
    ·have hq17:q=17:=by omega
     subst hq17
     go_wp2_with fail
     go_roundw
     case rel=>exact ⟨p + 1,by omega,by go_num,by rw [show (p + 1) * 17=p * 17 + 17 by omega]; exact G1.out,B1.out⟩
     case measure=>simp [intOf]; omega
  ·have hp17:p=17:=by omega
   subst hp17
   rw [partF_all] at G1
   go_wp2_with fail
   go_ret
   exact ⟨rfl,G1.out,B1.out⟩
end Go.Proofs.YtngnfdnfpiiclaaGreat
namespace Go.Proofs.YtngnfdnfpiiclaaGreat
open Go.RowKit
theorem rowA_set (v:Int→Int→Value) (p:Int) {i:Nat} (hi:i<17) (u:Value):(rowA v p).setIfInBounds i u=rowA (fun a q=>if q=(i:Int) then u else v a q) p:=by
 apply Array.ext_getElem?
 intro j
 by_cases hj:j<17
 ·rw [rowA_get _ p hj]
  by_cases h:i=j
  ·subst h
   rw [Array.getElem?_setIfInBounds_self_of_lt (by rw [rowA_size]; exact hj),if_pos rfl]
  ·rw [Array.getElem?_setIfInBounds_ne h,rowA_get v p hj,if_neg (by omega)]
 ·rw [Array.getElem?_eq_none (by simp [rowA_size]; omega),Array.getElem?_eq_none (by rw [rowA_size]; omega)]
theorem rowA_congr {v u:Int→Int→Value} {p p':Int} (h:∀ i:Nat,i<17→v p i=u p' i):rowA v p=rowA u p':=by
 apply Array.ext_getElem?
 intro j
 by_cases hj:j<17
 ·rw [rowA_get v p hj,rowA_get u p' hj,h j hj]
 ·rw [Array.getElem?_eq_none (by rw [rowA_size]; omega),Array.getElem?_eq_none (by rw [rowA_size]; omega)]
def inA (b:Int→Bool):Array Value:=rowA (fun _ q=>.bool (b q)) 0
theorem inA_size (b:Int→Bool):(inA b).size=17:=rowA_size _ _
theorem inA_get (b:Int→Bool) {i:Nat} (h:i<17):(inA b)[i]? = some (.bool (b i)):=rowA_get _ _ h
theorem inA_set (b:Int→Bool) {i:Nat} (hi:i<17) (u:Bool):(inA b).setIfInBounds i (.bool u)=inA fun q=>if q=(i:Int) then u else b q:=by
 unfold inA
 rw [rowA_set _ _ hi]
 refine rowA_congr fun j hj=>?_
 dsimp only
 split <;> rfl
theorem inA_one (b:Int→Bool):(inA b).all (·.oneCell')=true:=by
 rw [Array.all_eq_true]
 intro i hi
 have h17:i<17:=by rw [inA_size] at hi; exact hi
 have:=inA_get b h17
 rw [Array.getElem?_eq_getElem hi] at this
 simp only [Option.some.injEq] at this
 rw [this]
 rfl
theorem Blk.inAt {w:World} {g:Nat} {b:Int→Bool} {t:TypeId} (h:Blk w g (inA b) t) {p:Int} (h0:0≤p) (h1:p<17):w.cell? ⟨g,p.toNat,none⟩=some (.bool (b p)):=by
 rw [h.cell,inA_get b (by omega),Int.toNat_of_nonneg h0]
theorem Blk.inSet {w:World} {g:Nat} {b:Int→Bool} {t:TypeId} (h:Blk w g (inA b) t) {p:Int} (h0:0≤p) (h1:p<17) (u:Bool):Blk (w.setCell ⟨g,p.toNat,none⟩ (.bool u)) g (inA fun q=>if q=p then u else b q) t:=by
 have:=h.set p.toNat (.bool u)
 rw [inA_set b (by omega),Int.toNat_of_nonneg h0] at this
 exact this
attribute [irreducible] inA
end Go.Proofs.YtngnfdnfpiiclaaGreat
namespace Go.Proofs.YtngnfdnfpiiclaaGreat
open Go.RowKit
end Go.Proofs.YtngnfdnfpiiclaaGreat
namespace Go.Proofs.YtngnfdnfpiiclaaGreat
open Go.RowKit
theorem rowed_shape {w:World} {base:Nat} {e:TypeId} {size:Nat} {v:Value} {n:Nat} {xs:List Value} (h:Rowed w base e size v n xs) :
  ∃ (ao:Option Addr),v=.slice ao n n∧(0<n→∃ g,ao=some ⟨g,0,none⟩∧base≤g∧g<w.heap.size∧∀ j,j<n * size→w.cell? ⟨g,j,none⟩=xs[j]?):=by
 obtain ⟨h1,h2⟩:=h
 rcases h2 with ⟨rfl,rfl⟩ | ⟨g,cur,rfl,hb,hg,h3,h4,h5⟩
 ·exact ⟨none,rfl,fun h=>absurd h (by omega)⟩
 ·refine ⟨some ⟨g,0,none⟩,rfl,fun _=>⟨g,rfl,hb,lt_of_block hg,fun j hj=>?_⟩⟩
  have:w.cell? ⟨g,j,none⟩=cur[j]? := by simp [World.cell?,hg]
  rw [this,← h5,List.getElem?_take_of_lt hj,Array.getElem?_toList]
theorem Rowed.look {w:World} {base:Nat} {e:TypeId} {size:Nat} {v:Value} {n:Nat} {xs:List Value} (h:Rowed w base e size v n xs) :
  ∃ (ao:Option Addr) (cap:Nat),v=.slice ao n cap∧n≤cap∧cap≤maxLen∧xs.length=n * size∧(0<n→∃ b,ao=some ⟨b,0,none⟩∧base≤b∧b<w.heap.size∧(∀ j,j<n * size→w.cell? ⟨b,j,none⟩=xs[j]?)∧∀ j,w.frozen? ⟨b,j,none⟩=false):=by
 obtain ⟨h1,h2⟩:=h
 rcases h2 with ⟨rfl,rfl⟩ | ⟨g,cur,rfl,hb,hg,hm,hc,ht⟩
 ·exact ⟨none,0,rfl,Nat.le_refl _,by decide,h1,fun h=>absurd h (by omega)⟩
 ·have hB:Blk w g cur e:=hg
  refine ⟨some ⟨g,0,none⟩,n,rfl,Nat.le_refl _,hm,h1,fun _=>⟨g,rfl,hb,lt_of_block hg,fun j hj=>?_,fun j=>hB.frozen j⟩⟩
  rw [hB.cell,← ht,List.getElem?_take_of_lt hj,Array.getElem?_toList]
def RowPost (e:TypeId) (L:List Int) (w:World) (en:Ending) (w':World):Prop :=
 ∃ v,en=.returned v∧Rowed w' w.heap.size e 1 v L.length (L.map (.int .u8))∧Below w.heap.size w w'
end Go.Proofs.YtngnfdnfpiiclaaGreat
namespace Go.Proofs.YtngnfdnfpiiclaaGreat
open Go.RowKit
def RowA (w:World) (base:Nat) (e:TypeId) (size:Nat) (v:Value) (n:Nat) (xs:List Value):Prop :=
 xs.length=n * size∧((v=.slice none 0 0∧n=0)∨∃ g cap cur,v=.slice (some ⟨g,0,none⟩) n cap∧base≤g∧w.heap[g]? = some (.cells cur e (0,0))∧n≤cap∧cap≤maxLen∧cap * size≤cur.size∧cur.toList.take (n * size)=xs)
theorem RowA.of_rowed {w:World} {base:Nat} {e:TypeId} {size:Nat} {v:Value} {n:Nat} {xs:List Value} (h:Rowed w base e size v n xs):RowA w base e size v n xs:=by
 obtain ⟨h1,h2⟩:=h
 refine ⟨h1,?_⟩
 rcases h2 with h2 | ⟨g,cur,hv,hb,hg,c1,c2,c3⟩
 ·exact .inl h2
 ·exact .inr ⟨g,n,cur,hv,hb,hg,Nat.le_refl _,c1,c2,c3⟩
section
variable {w w':World} {base:Nat} {e:TypeId} {size:Nat} {v:Value} {n:Nat} {xs:List Value}
theorem RowA.keep {S:Nat→Prop} (h:RowA w base e size v n xs) (k:Keep S w w') (hs:∀ b,v.ownBlock=some b→¬ S b):RowA w' base e size v n xs:=by
 obtain ⟨h1,h2⟩:=h
 refine ⟨h1,?_⟩
 rcases h2 with h2 | ⟨g,cap,cur,rfl,hb,hg,hr⟩
 ·exact .inl h2
 ·refine .inr ⟨g,cap,cur,rfl,hb,?_,hr⟩
  rw [k.block g (lt_of_block hg) (hs g rfl)]
  exact hg
theorem RowA.below (h:RowA w base e size v n xs) (k:Below w.heap.size w w'):RowA w' base e size v n xs :=
 h.keep (Keep.of_below (S:=fun _=>False) k) (fun _ _=>id)
theorem RowA.type (h:RowA w base e size v n xs) {b:Nat} (hb:v.ownBlock=some b):base≤b∧b<w.heap.size∧∃ cur,w.heap[b]? = some (.cells cur e (0,0)):=by
 obtain ⟨_,h2⟩:=h
 rcases h2 with ⟨rfl,_⟩ | ⟨g,cap,cur,rfl,hge,hg,_⟩
 ·cases hb
 ·cases hb; exact ⟨hge,lt_of_block hg,cur,hg⟩
theorem RowA.look (h:RowA w base e size v n xs) (h2:1≤size) :
  ∃ (ao:Option Addr) (cap:Nat),v=.slice ao n cap∧n≤cap∧cap≤maxLen∧xs.length=n * size∧(0<n→∃ b,ao=some ⟨b,0,none⟩∧base≤b∧b<w.heap.size∧(∀ j,j<n * size→w.cell? ⟨b,j,none⟩=xs[j]?)∧∀ j,w.frozen? ⟨b,j,none⟩=false):=by
 obtain ⟨h1,h2⟩:=h
 rcases h2 with ⟨rfl,rfl⟩ | ⟨g,cap,cur,rfl,hb,hg,c1,c2,c3,c4⟩
 ·exact ⟨none,0,rfl,Nat.le_refl _,by decide,h1,fun h=>absurd h (by omega)⟩
 ·have hB:Blk w g cur e:=hg
  refine ⟨some ⟨g,0,none⟩,cap,rfl,c1,c2,h1,fun _=>⟨g,rfl,hb,lt_of_block hg,fun j hj=>?_,fun j=>hB.frozen j⟩⟩
  rw [hB.cell,← c4,List.getElem?_take_of_lt hj,Array.getElem?_toList]
end
end Go.Proofs.YtngnfdnfpiiclaaGreat
