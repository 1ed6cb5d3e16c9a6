/- Pieces of one proof. -/
import Derived.Test.YtojbmnbphdcjfaaGreatP31
import Derived.Test.YtojbmnbphdcjfaaGreatP32
set_option linter.all false
set_option maxHeartbeats 64000000
set_option maxRecDepth 100000
namespace Go.Proofs.YtojbmnbphdcjfaaGreat
open Go.RowKit
theorem info_fl:(Tryz.prog.info? 102).map (fun i=>(i.zero,i.size,i.bytes))=some (some (.agg #[.int .u64 0,.int .u8 0,.int .u8 0,.int .i64 0,.int .i64 0]),5,32):=by kernel_rfl
def SwpAt(W:World)(bl bb cl cb:Nat)(ps:List Int)(ls0:List Ln)(l0:List Of)(N tk pt get give n0:Int)(nv av:Value)(wr:World):Prop:=
 ∃(σ:SwS) (vp vl vb:Value),nv=.int .i64 σ.n∧RefL wr bl cl ps σ.ls vp vl∧RefB wr bb cb σ.l N vb∧wr.ownsRow W.heap.size 102 5 av σ.fs.length (aCp tk pt σ.fs)∧aE5 ps ls0 l0 N tk pt get give n0 σ∧σ.fs.length≤64∧
  Keep (fun k=>k=cl∨k=cb) W wr∧Hid (aBe ps tk pt get give 64 ⟨ls0,l0,[],n0⟩=aBe ps tk pt get give (64 - σ.fs.length) σ)
def RSwap(w:World)(bl bb:Nat)(ps:List Int)(ls:List Ln)(l:List Of)(N fr pt get give n most:Int)(e:Ending)(w':World):Prop:=
 (∃er:Int,er≠0∧(aBm ps ls l fr pt get give n most).1=er∧e=.returned (.tuple #[.agg #[.pointer none,.pointer none],.slice none 0 0,.int .i64 er])∧Below w.heap.size w w')∨
 ((aBm ps ls l fr pt get give n most).1=0∧∃cl cb vp vl vb v σ,(aBm ps ls l fr pt get give n most).2=σ∧e=.returned (.tuple #[.agg #[.pointer (some ⟨cl,0,none⟩),.pointer (some ⟨cb,0,none⟩)],v,.int .i64 0])∧RefL w' bl cl ps σ.ls vp vl∧RefB w' bb cb σ.l N vb∧
  w'.ownsRow w.heap.size 102 5 v σ.fs.length (aCp fr pt σ.fs)∧w.heap.size≤cl∧w.heap.size≤cb∧Below w.heap.size w w')
theorem aQd{w:World}{bl bb rl rb:Nat}{ps:List Int}{ls:List Ln}{l:List Of}{N:Int}{vp vl vb:Value}(hR:RefL w bl rl ps ls vp vl)(hI:LInv ps ls)(hB:RefB w bb rb l N vb)(hJ:BInv l N)
  (fr pt get give n most:Int)(hf:In8 fr)(ht:In8 pt)(hg:In8 get)(hv:In8 give)(hn:In64 n)(hm:In64 most)(hps:ps.length≤1000):
  Calls Tryz.prog 12 #[.agg #[.pointer (some ⟨rl,0,none⟩),.pointer (some ⟨rb,0,none⟩)],.int .u8 fr,.int .u8 pt,.int .u8 get,.int .u8 give,.int .i64 n,.int .i64 most] w (RSwap w bl bb ps ls l N fr pt get give n most):=by
 have b1:=(Below.refl w.heap.size w).alloc yL (.cells #[.pointer (some ⟨rl,0,none⟩),.pointer (some ⟨rb,0,none⟩)] 37);have b2:=b1.alloc b1.size (.cells #[.pointer none,.pointer none] 37);have b3:=b2.alloc b2.size (.cells #[.pointer none,.pointer none] 37);have KX:=yH (((pAA w #[.pointer (some ⟨rl,0,none⟩),.pointer (some ⟨rb,0,none⟩)] 37).alloc (.cells #[.pointer none,.pointer none] 37)).alloc (.cells #[.pointer none,.pointer none] 37));have KZ:=yH ((pAC (w.alloc (.cells #[.pointer (some ⟨rl,0,none⟩),.pointer (some ⟨rb,0,none⟩)] 37)) #[.pointer none,.pointer none] 37 (g:=w.heap.size+1) (by simp)).alloc (.cells #[.pointer none,.pointer none] 37));have KN:=yH (pAC ((w.alloc (.cells #[.pointer (some ⟨rl,0,none⟩),.pointer (some ⟨rb,0,none⟩)] 37)).alloc (.cells #[.pointer none,.pointer none] 37)) #[.pointer none,.pointer none] 37 (g:=w.heap.size+1+1) (by simp));have HR:=yH (hR.below b3);have HB:=yH (hB.below b3);have B3:=yH b3;have HWS:Hid ((((w.alloc (.cells #[.pointer (some ⟨rl,0,none⟩),.pointer (some ⟨rb,0,none⟩)] 37)).alloc (.cells #[.pointer none,.pointer none] 37)).alloc (.cells #[.pointer none,.pointer none] 37)).heap.size=w.heap.size+3):=yH (by simp);have II:=yH hI;have JJ:=yH hJ;have HF:=yH hf;have HTo:=yH ht;have HGe:=yH hg;have HGi:=yH hv;have HN:=yH hn;have HM:=yH hm;clear b1 b2 b3 hR hB hI hJ hf ht hg hv hn hm;go_enter Tryz.func12,Tryz.ntmps12
 go_upto_region 2 with fail
 generalize ((w.alloc (.cells #[.pointer (some ⟨rl,0,none⟩),.pointer (some ⟨rb,0,none⟩)] 37)).alloc (.cells #[.pointer none,.pointer none] 37)).alloc (.cells #[.pointer none,.pointer none] 37)=W at *
 by_cases c1:fr<1
 ·have dc1:decide (fr<1)=true:=by simpa using c1
  have NO:Hid ((aBm ps ls l fr pt get give n most).1=1):=yH (by unfold aBm;rw[if_pos (by unfold aB5;omega)]);clear c1;have z0:=KN.out.cell 0;have z1:=KN.out.cell 1;have zl:=KN.out.lt;simp at z0 z1;go_wp2_with (refine aAb rfl 37 (.tmp 14) (.tmp 76) rfl (w.heap.size+1) #[.pointer none,.pointer none] rfl rfl 37 _ KZ.out.out (by kernel_rfl) rfl (by simp[Value.oneCell']) ?_);refine bodyPost_ret (v:=.tuple #[.agg #[.pointer none,.pointer none],.slice none 0 0,.int .i64 1]) (aAi rfl _ _ (w.heap.size+1) 37 #[.pointer none,.pointer none] _ _ _ rfl (setRow_heap _ (w.heap.size+1) _ _ _ (0,0) KZ.out.out) Tryz.underlying37 rfl (by kernel_rfl) rfl rfl) rfl ?_;exact .inl ⟨1,by decide,NO.out,rfl,below_setRow B3.out (by omega) _⟩
 have dc1:decide (fr<1)=false:=by simpa using c1
 by_cases c2:16<fr
 ·have dc2:decide (16<fr)=true:=by simpa using c2
  have NO:Hid ((aBm ps ls l fr pt get give n most).1=1):=yH (by unfold aBm;rw[if_pos (by unfold aB5;omega)]);clear c2;have z0:=KN.out.cell 0;have z1:=KN.out.cell 1;have zl:=KN.out.lt;simp at z0 z1;go_wp2_with (refine aAb rfl 37 (.tmp 14) (.tmp 76) rfl (w.heap.size+1) #[.pointer none,.pointer none] rfl rfl 37 _ KZ.out.out (by kernel_rfl) rfl (by simp[Value.oneCell']) ?_);refine bodyPost_ret (v:=.tuple #[.agg #[.pointer none,.pointer none],.slice none 0 0,.int .i64 1]) (aAi rfl _ _ (w.heap.size+1) 37 #[.pointer none,.pointer none] _ _ _ rfl (setRow_heap _ (w.heap.size+1) _ _ _ (0,0) KZ.out.out) Tryz.underlying37 rfl (by kernel_rfl) rfl rfl) rfl ?_;exact .inl ⟨1,by decide,NO.out,rfl,below_setRow B3.out (by omega) _⟩
 have dc2:decide (16<fr)=false:=by simpa using c2
 by_cases c3:pt<1
 ·have dc3:decide (pt<1)=true:=by simpa using c3
  have NO:Hid ((aBm ps ls l fr pt get give n most).1=1):=yH (by unfold aBm;rw[if_pos (by unfold aB5;omega)]);clear c3;have z0:=KN.out.cell 0;have z1:=KN.out.cell 1;have zl:=KN.out.lt;simp at z0 z1;go_wp2_with (refine aAb rfl 37 (.tmp 14) (.tmp 76) rfl (w.heap.size+1) #[.pointer none,.pointer none] rfl rfl 37 _ KZ.out.out (by kernel_rfl) rfl (by simp[Value.oneCell']) ?_);refine bodyPost_ret (v:=.tuple #[.agg #[.pointer none,.pointer none],.slice none 0 0,.int .i64 1]) (aAi rfl _ _ (w.heap.size+1) 37 #[.pointer none,.pointer none] _ _ _ rfl (setRow_heap _ (w.heap.size+1) _ _ _ (0,0) KZ.out.out) Tryz.underlying37 rfl (by kernel_rfl) rfl rfl) rfl ?_;exact .inl ⟨1,by decide,NO.out,rfl,below_setRow B3.out (by omega) _⟩
 have dc3:decide (pt<1)=false:=by simpa using c3
 by_cases c4:16<pt
 ·have dc4:decide (16<pt)=true:=by simpa using c4
  have NO:Hid ((aBm ps ls l fr pt get give n most).1=1):=yH (by unfold aBm;rw[if_pos (by unfold aB5;omega)]);clear c4;have z0:=KN.out.cell 0;have z1:=KN.out.cell 1;have zl:=KN.out.lt;simp at z0 z1;go_wp2_with (refine aAb rfl 37 (.tmp 14) (.tmp 76) rfl (w.heap.size+1) #[.pointer none,.pointer none] rfl rfl 37 _ KZ.out.out (by kernel_rfl) rfl (by simp[Value.oneCell']) ?_);refine bodyPost_ret (v:=.tuple #[.agg #[.pointer none,.pointer none],.slice none 0 0,.int .i64 1]) (aAi rfl _ _ (w.heap.size+1) 37 #[.pointer none,.pointer none] _ _ _ rfl (setRow_heap _ (w.heap.size+1) _ _ _ (0,0) KZ.out.out) Tryz.underlying37 rfl (by kernel_rfl) rfl rfl) rfl ?_;exact .inl ⟨1,by decide,NO.out,rfl,below_setRow B3.out (by omega) _⟩
 have dc4:decide (16<pt)=false:=by simpa using c4
 by_cases c5:get<1
 ·have dc5:decide (get<1)=true:=by simpa using c5
  have NO:Hid ((aBm ps ls l fr pt get give n most).1=1):=yH (by unfold aBm;rw[if_pos (by unfold aB5;omega)]);clear c5;have z0:=KN.out.cell 0;have z1:=KN.out.cell 1;have zl:=KN.out.lt;simp at z0 z1;go_wp2_with (refine aAb rfl 37 (.tmp 14) (.tmp 76) rfl (w.heap.size+1) #[.pointer none,.pointer none] rfl rfl 37 _ KZ.out.out (by kernel_rfl) rfl (by simp[Value.oneCell']) ?_);refine bodyPost_ret (v:=.tuple #[.agg #[.pointer none,.pointer none],.slice none 0 0,.int .i64 1]) (aAi rfl _ _ (w.heap.size+1) 37 #[.pointer none,.pointer none] _ _ _ rfl (setRow_heap _ (w.heap.size+1) _ _ _ (0,0) KZ.out.out) Tryz.underlying37 rfl (by kernel_rfl) rfl rfl) rfl ?_;exact .inl ⟨1,by decide,NO.out,rfl,below_setRow B3.out (by omega) _⟩
 have dc5:decide (get<1)=false:=by simpa using c5
 by_cases c6:8<get
 ·have dc6:decide (8<get)=true:=by simpa using c6
  have NO:Hid ((aBm ps ls l fr pt get give n most).1=1):=yH (by unfold aBm;rw[if_pos (by unfold aB5;omega)]);clear c6;have z0:=KN.out.cell 0;have z1:=KN.out.cell 1;have zl:=KN.out.lt;simp at z0 z1;go_wp2_with (refine aAb rfl 37 (.tmp 14) (.tmp 76) rfl (w.heap.size+1) #[.pointer none,.pointer none] rfl rfl 37 _ KZ.out.out (by kernel_rfl) rfl (by simp[Value.oneCell']) ?_);refine bodyPost_ret (v:=.tuple #[.agg #[.pointer none,.pointer none],.slice none 0 0,.int .i64 1]) (aAi rfl _ _ (w.heap.size+1) 37 #[.pointer none,.pointer none] _ _ _ rfl (setRow_heap _ (w.heap.size+1) _ _ _ (0,0) KZ.out.out) Tryz.underlying37 rfl (by kernel_rfl) rfl rfl) rfl ?_;exact .inl ⟨1,by decide,NO.out,rfl,below_setRow B3.out (by omega) _⟩
 have dc6:decide (8<get)=false:=by simpa using c6
 by_cases c7:give<1
 ·have dc7:decide (give<1)=true:=by simpa using c7
  have NO:Hid ((aBm ps ls l fr pt get give n most).1=1):=yH (by unfold aBm;rw[if_pos (by unfold aB5;omega)]);clear c7;have z0:=KN.out.cell 0;have z1:=KN.out.cell 1;have zl:=KN.out.lt;simp at z0 z1;go_wp2_with (refine aAb rfl 37 (.tmp 14) (.tmp 76) rfl (w.heap.size+1) #[.pointer none,.pointer none] rfl rfl 37 _ KZ.out.out (by kernel_rfl) rfl (by simp[Value.oneCell']) ?_);refine bodyPost_ret (v:=.tuple #[.agg #[.pointer none,.pointer none],.slice none 0 0,.int .i64 1]) (aAi rfl _ _ (w.heap.size+1) 37 #[.pointer none,.pointer none] _ _ _ rfl (setRow_heap _ (w.heap.size+1) _ _ _ (0,0) KZ.out.out) Tryz.underlying37 rfl (by kernel_rfl) rfl rfl) rfl ?_;exact .inl ⟨1,by decide,NO.out,rfl,below_setRow B3.out (by omega) _⟩
 have dc7:decide (give<1)=false:=by simpa using c7
 by_cases c8:8<give
 ·have dc8:decide (8<give)=true:=by simpa using c8
  have NO:Hid ((aBm ps ls l fr pt get give n most).1=1):=yH (by unfold aBm;rw[if_pos (by unfold aB5;omega)]);clear c8;have z0:=KN.out.cell 0;have z1:=KN.out.cell 1;have zl:=KN.out.lt;simp at z0 z1;go_wp2_with (refine aAb rfl 37 (.tmp 14) (.tmp 76) rfl (w.heap.size+1) #[.pointer none,.pointer none] rfl rfl 37 _ KZ.out.out (by kernel_rfl) rfl (by simp[Value.oneCell']) ?_);refine bodyPost_ret (v:=.tuple #[.agg #[.pointer none,.pointer none],.slice none 0 0,.int .i64 1]) (aAi rfl _ _ (w.heap.size+1) 37 #[.pointer none,.pointer none] _ _ _ rfl (setRow_heap _ (w.heap.size+1) _ _ _ (0,0) KZ.out.out) Tryz.underlying37 rfl (by kernel_rfl) rfl rfl) rfl ?_;exact .inl ⟨1,by decide,NO.out,rfl,below_setRow B3.out (by omega) _⟩
 have dc8:decide (8<give)=false:=by simpa using c8
 by_cases c9:get=give
 ·have dc9:(get==give)=true:=by simpa using c9
  have NO:Hid ((aBm ps ls l fr pt get give n most).1=1):=yH (by unfold aBm;rw[if_pos (by unfold aB5;omega)]);clear c9;have z0:=KN.out.cell 0;have z1:=KN.out.cell 1;have zl:=KN.out.lt;simp at z0 z1;go_wp2_with (refine aAb rfl 37 (.tmp 14) (.tmp 76) rfl (w.heap.size+1) #[.pointer none,.pointer none] rfl rfl 37 _ KZ.out.out (by kernel_rfl) rfl (by simp[Value.oneCell']) ?_);refine bodyPost_ret (v:=.tuple #[.agg #[.pointer none,.pointer none],.slice none 0 0,.int .i64 1]) (aAi rfl _ _ (w.heap.size+1) 37 #[.pointer none,.pointer none] _ _ _ rfl (setRow_heap _ (w.heap.size+1) _ _ _ (0,0) KZ.out.out) Tryz.underlying37 rfl (by kernel_rfl) rfl rfl) rfl ?_;exact .inl ⟨1,by decide,NO.out,rfl,below_setRow B3.out (by omega) _⟩
 have dc9:(get==give)=false:=by simpa using c9
 by_cases c10:n<1
 ·have dc10:decide (n<1)=true:=by simpa using c10
  have NO:Hid ((aBm ps ls l fr pt get give n most).1=1):=yH (by unfold aBm;rw[if_pos (by unfold aB5;omega)]);clear c10;have z0:=KN.out.cell 0;have z1:=KN.out.cell 1;have zl:=KN.out.lt;simp at z0 z1;go_wp2_with (refine aAb rfl 37 (.tmp 14) (.tmp 76) rfl (w.heap.size+1) #[.pointer none,.pointer none] rfl rfl 37 _ KZ.out.out (by kernel_rfl) rfl (by simp[Value.oneCell']) ?_);refine bodyPost_ret (v:=.tuple #[.agg #[.pointer none,.pointer none],.slice none 0 0,.int .i64 1]) (aAi rfl _ _ (w.heap.size+1) 37 #[.pointer none,.pointer none] _ _ _ rfl (setRow_heap _ (w.heap.size+1) _ _ _ (0,0) KZ.out.out) Tryz.underlying37 rfl (by kernel_rfl) rfl rfl) rfl ?_;exact .inl ⟨1,by decide,NO.out,rfl,below_setRow B3.out (by omega) _⟩
 have dc10:decide (n<1)=false:=by simpa using c10
 by_cases c11:1099511627776<n
 ·have dc11:decide (1099511627776<n)=true:=by simpa using c11
  have NO:Hid ((aBm ps ls l fr pt get give n most).1=1):=yH (by unfold aBm;rw[if_pos (by unfold aB5;omega)]);clear c11;have z0:=KN.out.cell 0;have z1:=KN.out.cell 1;have zl:=KN.out.lt;simp at z0 z1;go_wp2_with (refine aAb rfl 37 (.tmp 14) (.tmp 76) rfl (w.heap.size+1) #[.pointer none,.pointer none] rfl rfl 37 _ KZ.out.out (by kernel_rfl) rfl (by simp[Value.oneCell']) ?_);refine bodyPost_ret (v:=.tuple #[.agg #[.pointer none,.pointer none],.slice none 0 0,.int .i64 1]) (aAi rfl _ _ (w.heap.size+1) 37 #[.pointer none,.pointer none] _ _ _ rfl (setRow_heap _ (w.heap.size+1) _ _ _ (0,0) KZ.out.out) Tryz.underlying37 rfl (by kernel_rfl) rfl rfl) rfl ?_;exact .inl ⟨1,by decide,NO.out,rfl,below_setRow B3.out (by omega) _⟩
 have dc11:decide (1099511627776<n)=false:=by simpa using c11
 by_cases c12:most<1
 ·have dc12:decide (most<1)=true:=by simpa using c12
  have NO:Hid ((aBm ps ls l fr pt get give n most).1=1):=yH (by unfold aBm;rw[if_pos (by unfold aB5;omega)]);clear c12;have z0:=KN.out.cell 0;have z1:=KN.out.cell 1;have zl:=KN.out.lt;simp at z0 z1;go_wp2_with (refine aAb rfl 37 (.tmp 14) (.tmp 76) rfl (w.heap.size+1) #[.pointer none,.pointer none] rfl rfl 37 _ KZ.out.out (by kernel_rfl) rfl (by simp[Value.oneCell']) ?_);refine bodyPost_ret (v:=.tuple #[.agg #[.pointer none,.pointer none],.slice none 0 0,.int .i64 1]) (aAi rfl _ _ (w.heap.size+1) 37 #[.pointer none,.pointer none] _ _ _ rfl (setRow_heap _ (w.heap.size+1) _ _ _ (0,0) KZ.out.out) Tryz.underlying37 rfl (by kernel_rfl) rfl rfl) rfl ?_;exact .inl ⟨1,by decide,NO.out,rfl,below_setRow B3.out (by omega) _⟩
 have dc12:decide (most<1)=false:=by simpa using c12
 by_cases c13:1099511627776<most
 ·have dc13:decide (1099511627776<most)=true:=by simpa using c13
  have NO:Hid ((aBm ps ls l fr pt get give n most).1=1):=yH (by unfold aBm;rw[if_pos (by unfold aB5;omega)]);clear c13;have z0:=KN.out.cell 0;have z1:=KN.out.cell 1;have zl:=KN.out.lt;simp at z0 z1;go_wp2_with (refine aAb rfl 37 (.tmp 14) (.tmp 76) rfl (w.heap.size+1) #[.pointer none,.pointer none] rfl rfl 37 _ KZ.out.out (by kernel_rfl) rfl (by simp[Value.oneCell']) ?_);refine bodyPost_ret (v:=.tuple #[.agg #[.pointer none,.pointer none],.slice none 0 0,.int .i64 1]) (aAi rfl _ _ (w.heap.size+1) 37 #[.pointer none,.pointer none] _ _ _ rfl (setRow_heap _ (w.heap.size+1) _ _ _ (0,0) KZ.out.out) Tryz.underlying37 rfl (by kernel_rfl) rfl rfl) rfl ?_;exact .inl ⟨1,by decide,NO.out,rfl,below_setRow B3.out (by omega) _⟩
 have dc13:decide (1099511627776<most)=false:=by simpa using c13
 have MAY:Hid (aB5 fr pt get give n most):=yH (by unfold aB5;omega);have BDS:=yH (show 1≤n∧n≤1099511627776∧1≤most∧most≤1099511627776 from by omega);clear c1 c2 c3 c4 c5 c6 c7 c8 c9 c10 c11 c12 c13;have CF:=yH (aCq HR.out fr);have CT:=yH (aCq HR.out pt);have x0:=KX.out.cell 0;have x1:=KX.out.cell 1;have xl:=KX.out.lt;simp at x0 x1
 by_cases hfp:fr∉ps
 ·have NO:Hid ((aBm ps ls l fr pt get give n most).1=7):=yH (by unfold aBm;rw[if_neg (fun h=>h MAY.out),if_pos (.inl hfp)]);rw[decide_eq_false hfp]at CF;clear hfp CT;go_wp2_with fail;refine CF.out.mono ?_;rintro e w1 ⟨rfl,rfl⟩;have z0:=KN.out.cell 0;have z1:=KN.out.cell 1;have zl:=KN.out.lt;simp at z0 z1;go_wp2_with (refine aAb rfl 37 (.tmp 14) (.tmp 89) rfl (w.heap.size+1) #[.pointer none,.pointer none] rfl rfl 37 _ KZ.out.out (by kernel_rfl) rfl (by simp[Value.oneCell']) ?_);refine bodyPost_ret (v:=.tuple #[.agg #[.pointer none,.pointer none],.slice none 0 0,.int .i64 7]) (aAi rfl _ _ (w.heap.size+1) 37 #[.pointer none,.pointer none] _ _ _ rfl (setRow_heap _ (w.heap.size+1) _ _ _ (0,0) KZ.out.out) Tryz.underlying37 rfl (by kernel_rfl) rfl rfl) rfl ?_;exact .inl ⟨7,by decide,NO.out,rfl,below_setRow B3.out (by omega) _⟩
 have hfp:=Decidable.not_not.1 hfp
 by_cases htp:pt∉ps
 ·have NO:Hid ((aBm ps ls l fr pt get give n most).1=7):=yH (by unfold aBm;rw[if_neg (fun h=>h MAY.out),if_pos (.inr htp)]);rw[decide_eq_true hfp]at CF;rw[decide_eq_false htp]at CT;clear hfp htp;go_wp2_with fail;refine CF.out.mono ?_;rintro e w1 ⟨rfl,rfl⟩;go_wp2_with fail;refine CT.out.mono ?_;rintro e w1 ⟨rfl,rfl⟩;have z0:=KN.out.cell 0;have z1:=KN.out.cell 1;have zl:=KN.out.lt;simp at z0 z1;go_wp2_with (refine aAb rfl 37 (.tmp 14) (.tmp 89) rfl (w.heap.size+1) #[.pointer none,.pointer none] rfl rfl 37 _ KZ.out.out (by kernel_rfl) rfl (by simp[Value.oneCell']) ?_);refine bodyPost_ret (v:=.tuple #[.agg #[.pointer none,.pointer none],.slice none 0 0,.int .i64 7]) (aAi rfl _ _ (w.heap.size+1) 37 #[.pointer none,.pointer none] _ _ _ rfl (setRow_heap _ (w.heap.size+1) _ _ _ (0,0) KZ.out.out) Tryz.underlying37 rfl (by kernel_rfl) rfl rfl) rfl ?_;exact .inl ⟨7,by decide,NO.out,rfl,below_setRow B3.out (by omega) _⟩
 have htp:=Decidable.not_not.1 htp;rw[decide_eq_true hfp]at CF;rw[decide_eq_true htp]at CT;have OK:Hid (aBm ps ls l fr pt get give n most=if(aBe ps fr pt get give 64 ⟨ls,l,[],n⟩).1≠0 then aBe ps fr pt get give 64 ⟨ls,l,[],n⟩else if most<((aBe ps fr pt get give 64 ⟨ls,l,[],n⟩).2.fs.map Fl.gi).sum then(12,(aBe ps fr pt get give 64 ⟨ls,l,[],n⟩).2)else aBe ps fr pt get give 64 ⟨ls,l,[],n⟩):=yH (by unfold aBm;rw[if_neg (fun h=>h MAY.out),if_neg (fun h=>h.elim (fun h=>h hfp) (fun h=>h htp))]);clear hfp htp;have CCp:=yH (aSd HR.out HB.out hps (by have:=II.out.len;omega) (by have:=JJ.out.len;omega));have HWZ:Hid (W.heap.size=w.heap.size+3):=HWS;clear hps;go_wp2_with fail;refine CF.out.mono ?_;rintro e w1 ⟨rfl,rfl⟩;go_wp2_with fail;refine CT.out.mono ?_;rintro e w1 ⟨rfl,rfl⟩;go_wp2_with fail;clear dc1 dc2 dc3 dc4 dc5 dc6 dc7 dc8 dc9 dc10 dc11 dc12 dc13;refine CCp.out.mono ?_;rintro e w4 ⟨cl,cb,vp2,vl2,vb2,rfl,hcl,hcb,g1,g2,g3,g4,g5,b4⟩;have bh:=(Below.refl w4.heap.size w4).alloc yL (.cells #[.pointer (some ⟨cl,0,none⟩),.pointer (some ⟨cb,0,none⟩)] 37);have KC:=yH (pAA w4 #[.pointer (some ⟨cl,0,none⟩),.pointer (some ⟨cb,0,none⟩)] 37);have b5:=b4.trans (bh.mono b4.size);have KZ5:=yB KZ b5;have KN5:=yB KN b5;have B5:=yT B3 b5;have RL5:=yH (hcl.below bh);have RB5:=yH (hcb.below bh);have GE:=yH (show w.heap.size+2<cl∧w.heap.size+2<cb∧cl<w4.heap.size∧cb<w4.heap.size∧w.heap.size+2<w4.heap.size from by have:=HWZ.out;have h1:=hcl.blk.lt;have h2:=hcb.blk.lt;omega);clear bh b4 b5 hcl hcb g1 g2 g3 g4 g5 CCp CF CT KX KZ KN B3 HR HB x0 x1 xl;go_wp2_with fail;generalize w4.alloc (.cells #[.pointer (some ⟨cl,0,none⟩),.pointer (some ⟨cb,0,none⟩)] 37)=W5 at *
 go_loopw [5,19,20,21,22,23] (fun nv av _ _ _ _ wr=>SwpAt W5 bl bb cl cb ps ls l N fr pt get give n nv av wr) (fun nv _ _ _ _ _ _=>(intOf nv).toNat)
 case atStart=>exact⟨⟨ls,l,[],n⟩,_,_,_,rfl,RL5.out,RB5.out,World.ownsRow_nil _ _ _ _,aE5.start II.out JJ.out,by simp,Keep.refl _ _,yH rfl⟩
 obtain⟨σ,vp,vl,vb,rfl,hRL,hRB,hO,hS,hlen,hK,HE⟩:=hrel;have RL:=yH hRL;have RB:=yH hRB;have OO:=yH hO;have SI:=yH hS;have KK:=yH hK;have hne:¬(w4.heap.size=cl∨w4.heap.size=cb):=by have:=GE.out;omega
 have hnz:¬(w.heap.size+1=cl∨w.heap.size+1=cb):=by have:=GE.out;omega
 have hnn:¬(w.heap.size+1+1=cl∨w.heap.size+1+1=cb):=by have:=GE.out;omega
 have KCr:=yH (KC.out.keep hK hne);have KZr:=yH (KZ5.out.keep hK hnz);have KNr:=yH (KN5.out.keep hK hnn);have BR:Hid (Below w.heap.size w wr):=yH (B5.out.trans (hK.below B5.out.size (fun k hk h=>by have:=GE.out;omega)));obtain⟨sn,hsn⟩:∃sn,σ.n=sn:=⟨_,rfl⟩;have HSN:=yH hsn
 have hsle:sn≤1099511627776:=by
  have h1:=hS.sum;have h2:0≤(σ.fs.map Fl.got).sum:=hS.got_nn;have:=BDS.out;omega
 rw[hsn];clear hRL hRB hO hS hK hsn hne hnz hnn RL5 RB5 KZ5 KN5
 by_cases hn0:0<sn
 ·have q0:decide (0<sn)=true:=by simpa using hn0
  obtain⟨ao,cap,hav,hc1,hc2,_,_⟩:=aAd OO.out;subst hav;obtain⟨rs,rk,hr⟩:∃rs rk,(aBh ps σ.ls σ.l fr pt sn 1099511627776 (aBu σ.l get give)).getD (0,0)=(rs,rk):=⟨_,_,rfl⟩;have HRr:=yH hr;have S64:=yH (show In64 sn from⟨by omega,by omega⟩);have M64:=yH (show In64 1099511627776 from by unfold In64;decide);unfold maxLen at hc2;clear hr;go_wp2_with fail
  have hlasts:∀q∈([(5,(fun v w=>w.ownsRow wr.heap.size 76 7 v (aBu σ.l get give).length (aAa (aBu σ.l get give))))]:List (Nat×(Value→World→Prop))),Lasts q.2:=by
   intro q hq;simp only[yI,yJ,or_false]at hq;rcases hq with rfl
   exact fun v w w' h k=>aAc h k
  have HL:=yH hlasts;clear hlasts
  refine aGe (by kernel_rfl) (fun s:Nat→Value=>[(.agg #[.pointer (some ⟨cl,0,none⟩),.pointer (some ⟨cb,0,none⟩)]),(.pointer (some ⟨w4.heap.size,1,none⟩)),(.pointer (some ⟨cb,0,none⟩)),(.int .u8 get),(.int .u8 give),s 5,(.int .u8 fr),(.int .u8 pt),(.int .i64 sn),(.tuple #[.int .u64 rs,.int .i64 rk]),(.tuple #[.int .u64 rs,.int .i64 rk]),(.int .u64 rs),(.int .i64 rk),(.int .u64 rs),(.int .i64 rk)])
   (Got wr [(5,(fun v w=>w.ownsRow wr.heap.size 76 7 v (aBu σ.l get give).length (aAa (aBu σ.l get give))))]) (by kernel_rfl) (fun _=>undef) (Got.start _ _ _) ?_
  intro AF hAF;simp only[yG,puts,Act.put,yA,yC,yF,yD,yE]at hAF;have hAF2:_=AF:=funext hAF;subst hAF2;clear hAF;refine⟨?_,?_⟩
  ·simp only[yG,aOv];refine⟨?_,?_,?_,?_,?_,?_,?_,?_,?_,?_,?_,?_,?_,?_,?_,trivial⟩
   ·intro s D w' hD hW hC hI;have hS:=hI.below;refine .inl ⟨s,fun _ _ _=>rfl,?_⟩;with_reducible refine yO rfl ?_
    have hl0:=yM KCr.out.lt hS.size;have d0_0:=(KCr.out.below hS KCr.out.lt).cell 0;have d0_1:=(KCr.out.below hS KCr.out.lt).cell 1;simp at d0_0 d0_1;have HS:=yH (hI.step HL.out yZ (k:=0) (by intro q hq;simp only[yI,yJ,or_false]at hq;rcases hq with rfl <;> first|exact(show(5:Nat)≠0 by decide)));clear hI hS hC hW hD;go_wp2_with fail;all_goals first|exact HS|exact⟨rfl,HS⟩|rfl
   ·intro s D w' hD hW hC hI;have hS:=hI.below;refine .inl ⟨s,fun _ _ _=>rfl,?_⟩;with_reducible refine yO rfl ?_
    have hl0:=yM KCr.out.lt hS.size;have HS:=yH (hI.step HL.out yZ (k:=1) (by intro q hq;simp only[yI,yJ,or_false]at hq;rcases hq with rfl <;> first|exact(show(5:Nat)≠1 by decide)));clear hI hS hC hW hD;go_wp2_with fail;all_goals first|exact HS|exact⟨rfl,HS⟩|rfl
   ·intro s D w' hD hW hC hI;have hS:=hI.below;refine .inl ⟨s,fun _ _ _=>rfl,?_⟩;with_reducible refine yO rfl ?_
    have hl0:=yM KCr.out.lt hS.size;have d0_0:=(KCr.out.below hS KCr.out.lt).cell 0;have d0_1:=(KCr.out.below hS KCr.out.lt).cell 1;simp at d0_0 d0_1;have HS:=yH (hI.step HL.out yZ (k:=2) (by intro q hq;simp only[yI,yJ,or_false]at hq;rcases hq with rfl <;> first|exact(show(5:Nat)≠2 by decide)));clear hI hS hC hW hD;go_wp2_with fail;all_goals first|exact HS|exact⟨rfl,HS⟩|rfl
   ·intro s D w' hD hW hC hI;have hS:=hI.below;refine .inl ⟨s,fun _ _ _=>rfl,?_⟩;with_reducible refine yO rfl ?_
    have HS:=yH (hI.step HL.out yZ (k:=3) (by intro q hq;simp only[yI,yJ,or_false]at hq;rcases hq with rfl <;> first|exact(show(5:Nat)≠3 by decide)));clear hI hS hC hW hD;go_wp2_with fail;all_goals first|exact HS|exact⟨rfl,HS⟩|rfl
   ·intro s D w' hD hW hC hI;have hS:=hI.below;refine .inl ⟨s,fun _ _ _=>rfl,?_⟩;with_reducible refine yO rfl ?_
    have HS:=yH (hI.step HL.out yZ (k:=4) (by intro q hq;simp only[yI,yJ,or_false]at hq;rcases hq with rfl <;> first|exact(show(5:Nat)≠4 by decide)));clear hI hS hC hW hD;go_wp2_with fail;all_goals first|exact HS|exact⟨rfl,HS⟩|rfl
   ·intro s D w' hD hW hC hI;have hS:=hI.below;have HI:=yH hI;have HCl:=yH hC;have HD:=yH hD;have HC:=yH (bbest_any (RB.out.below hS) get give (by have:=SI.out.binv.len;omega));refine .inr ?_;with_reducible refine aEu.plain ?_ ?_
    exact rfl;clear hI hS hC hW hD;go_wp2_with fail;refine HC.out.mono ?_;rintro e w'' ⟨v,rfl,hv,hb2⟩;refine⟨v,rfl,updV s 5 v,aJ7 _ (fun s:Nat→Value=>[(.agg #[.pointer (some ⟨cl,0,none⟩),.pointer (some ⟨cb,0,none⟩)]),(.pointer (some ⟨w4.heap.size,1,none⟩)),(.pointer (some ⟨cb,0,none⟩)),(.int .u8 get),(.int .u8 give),s 5,(.int .u8 fr),(.int .u8 pt),(.int .i64 sn),(.tuple #[.int .u64 rs,.int .i64 rk]),(.tuple #[.int .u64 rs,.int .i64 rk]),(.int .u64 rs),(.int .i64 rk),(.int .u64 rs),(.int .i64 rk)]) s 5 v HCl.out HD.out ?_,rfl,HI.out.put HL.out hb2 ?_⟩
    ·intro j hj
     match j,hj with
     | 0,_=>exact .inr rfl
     | 1,_=>exact .inr rfl
     | 2,_=>exact .inr rfl
     | 3,_=>exact .inr rfl
     | 4,_=>exact .inr rfl
     | 5,_=>exact .inl (.inl rfl)
     | 6,_=>exact .inr rfl
     | 7,_=>exact .inr rfl
     | 8,_=>exact .inr rfl
     | 9,_=>exact .inr rfl
     | 10,_=>exact .inr rfl
     | 11,_=>exact .inr rfl
     | 12,_=>exact .inr rfl
     | 13,_=>exact .inr rfl
     | 14,_=>exact .inr rfl
     | j+15,_=>exact .inr rfl
    intro q hq he;simp only[yI,yJ,or_false]at hq;rcases hq with rfl <;> first|exact aBd hv HI.out.below.size
   ·intro s D w' hD hW hC hI;have hS:=hI.below;refine .inl ⟨s,fun _ _ _=>rfl,?_⟩;with_reducible refine yO rfl ?_
    have HS:=yH (hI.step HL.out yZ (k:=6) (by intro q hq;simp only[yI,yJ,or_false]at hq;rcases hq with rfl <;> first|exact(show(5:Nat)≠6 by decide)));clear hI hS hC hW hD;go_wp2_with fail;all_goals first|exact HS|exact⟨rfl,HS⟩|rfl
   ·intro s D w' hD hW hC hI;have hS:=hI.below;refine .inl ⟨s,fun _ _ _=>rfl,?_⟩;with_reducible refine yO rfl ?_
    have HS:=yH (hI.step HL.out yZ (k:=7) (by intro q hq;simp only[yI,yJ,or_false]at hq;rcases hq with rfl <;> first|exact(show(5:Nat)≠7 by decide)));clear hI hS hC hW hD;go_wp2_with fail;all_goals first|exact HS|exact⟨rfl,HS⟩|rfl
   ·intro s D w' hD hW hC hI;have hS:=hI.below;refine .inl ⟨s,fun _ _ _=>rfl,?_⟩;with_reducible refine yO rfl ?_
    have HS:=yH (hI.step HL.out yZ (k:=8) (by intro q hq;simp only[yI,yJ,or_false]at hq;rcases hq with rfl <;> first|exact(show(5:Nat)≠8 by decide)));clear hI hS hC hW hD;go_wp2_with fail;all_goals first|exact HS|exact⟨rfl,HS⟩|rfl
   ·intro s D w' hD hW hC hI;have hS:=hI.below;refine .inl ⟨s,fun _ _ _=>rfl,?_⟩;with_reducible refine yO rfl ?_
    have hP5:D 5=true:=aBx hC hW (by kernel_rfl);have hq5:=hI.at (5,(fun v w=>w.ownsRow wr.heap.size 76 7 v (aBu σ.l get give).length (aAa (aBu σ.l get give)))) (by simp) hP5;dsimp only at hq5;have HI:=yH hI;have HC:=yH ((by have q:=aQc (RL.out.below hS) SI.out.linv (RB.out.below hS) SI.out.binv hq5 fr pt sn 1099511627776 HF.out HTo.out S64.out M64.out;rw[HRr.out]at q;exact q:Calls Tryz.prog 43 #[.agg #[.pointer (some ⟨cl,0,none⟩),.pointer (some ⟨cb,0,none⟩)],s 5,.int .u8 fr,.int .u8 pt,.int .i64 sn,.int .i64 1099511627776] w' fun e w''=>e=.returned (.tuple #[.int .u64 rs,.int .i64 rk])∧Below w'.heap.size w' w''));clear hI hS hC hW hD hP5 hq5;go_wp2_with fail;refine HC.out.mono ?_;rintro e w'' ⟨rfl,hb2⟩;exact⟨rfl,HI.out.step HL.out hb2 (by intro q hq;simp only[yI,yJ,or_false]at hq;rcases hq with rfl <;> first|exact(show(5:Nat)≠9 by decide))⟩
   ·intro s D w' hD hW hC hI;have hS:=hI.below;refine .inl ⟨s,fun _ _ _=>rfl,?_⟩;with_reducible refine yO rfl ?_
    have HS:=yH (hI.step HL.out yZ (k:=10) (by intro q hq;simp only[yI,yJ,or_false]at hq;rcases hq with rfl <;> first|exact(show(5:Nat)≠10 by decide)));clear hI hS hC hW hD;go_wp2_with fail;all_goals first|exact HS|exact⟨rfl,HS⟩|rfl
   ·intro s D w' hD hW hC hI;have hS:=hI.below;refine .inl ⟨s,fun _ _ _=>rfl,?_⟩;with_reducible refine yO rfl ?_
    have HS:=yH (hI.step HL.out yZ (k:=11) (by intro q hq;simp only[yI,yJ,or_false]at hq;rcases hq with rfl <;> first|exact(show(5:Nat)≠11 by decide)));clear hI hS hC hW hD;go_wp2_with fail;all_goals first|exact HS|exact⟨rfl,HS⟩|rfl
   ·intro s D w' hD hW hC hI;have hS:=hI.below;refine .inl ⟨s,fun _ _ _=>rfl,?_⟩;with_reducible refine yO rfl ?_
    have HS:=yH (hI.step HL.out yZ (k:=12) (by intro q hq;simp only[yI,yJ,or_false]at hq;rcases hq with rfl <;> first|exact(show(5:Nat)≠12 by decide)));clear hI hS hC hW hD;go_wp2_with fail;all_goals first|exact HS|exact⟨rfl,HS⟩|rfl
   ·intro s D w' hD hW hC hI;have hS:=hI.below;refine .inl ⟨s,fun _ _ _=>rfl,?_⟩;with_reducible refine yO rfl ?_
    have HS:=yH (hI.step HL.out yZ (k:=13) (by intro q hq;simp only[yI,yJ,or_false]at hq;rcases hq with rfl <;> first|exact(show(5:Nat)≠13 by decide)));clear hI hS hC hW hD;go_wp2_with fail;all_goals first|exact HS|exact⟨rfl,HS⟩|rfl
   intro s D w' hD hW hC hI;have hS:=hI.below;refine .inl ⟨s,fun _ _ _=>rfl,?_⟩;with_reducible refine yO rfl ?_
   have HS:=yH (hI.step HL.out yZ (k:=14) (by intro q hq;simp only[yI,yJ,or_false]at hq;rcases hq with rfl <;> first|exact(show(5:Nat)≠14 by decide)));clear hI hS hC hW hD;go_wp2_with fail;all_goals first|exact HS|exact⟨rfl,HS⟩|rfl
  intro s9 D9 w9 hall hI9;have b9:=hI9.below;have KC9:=yB KCr b9;have KZ9:=yB KZr b9;have KN9:=yB KNr b9;have RL9:=yH (RL.out.below b9);have RB9:=yH (RB.out.below b9);have OO9:=yH (aAc OO.out b9);have B9:=yT BR b9;have KK9:=yH (KK.out.trans (pAE (S:=fun k=>k=cl∨k=cb) b9));clear b9 hall hI9 KCr KZr KNr RL RB OO BR KK;have HR0:=HRr.out
  cases hfs:aBh ps σ.ls σ.l fr pt sn 1099511627776 (aBu σ.l get give)with
  | none=>
   rw[hfs]at HR0;simp only[Option.getD_none,Prod.mk.injEq]at HR0;obtain⟨h1,h2⟩:=HR0;subst h1 h2
   have NO:Hid ((aBm ps ls l fr pt get give n most).1=11):=yH (by
    have e:aBe ps fr pt get give 64 ⟨ls,l,[],n⟩=(11,σ):=by rw[HE.out,aEq (by rw[HSN.out];omega) (by rw[HSN.out];exact hfs)]
    rw[OK.out,e];simp only[];rw[if_pos (by simp)])
   clear hfs;have z0:=KN9.out.cell 0;have z1:=KN9.out.cell 1;have zl:=KN9.out.lt;simp at z0 z1;go_wp2_with (refine aAb rfl 37 (.tmp 14) (.tmp 109) rfl (w.heap.size+1) #[.pointer none,.pointer none] rfl rfl 37 _ KZ9.out.out (by kernel_rfl) rfl (by simp[Value.oneCell']) ?_);refine bodyPost_ret (v:=.tuple #[.agg #[.pointer none,.pointer none],.slice none 0 0,.int .i64 11]) (aAi rfl _ _ (w.heap.size+1) 37 #[.pointer none,.pointer none] _ _ _ rfl (setRow_heap _ (w.heap.size+1) _ _ _ (0,0) KZ9.out.out) Tryz.underlying37 rfl (by kernel_rfl) rfl rfl) rfl ?_;exact .inl ⟨11,by decide,NO.out,rfl,below_setRow B9.out (by omega) _⟩
  | some sk=>
   obtain⟨s0,k0⟩:=sk;rw[hfs]at HR0;simp only[Option.getD_some,Prod.mk.injEq]at HR0;obtain⟨h1,h2⟩:=HR0;subst h1 h2;obtain⟨k1,k2,ok,⟨o,ho,_,_⟩,hnext⟩:=SI.out.step (s:=s0) (k:=k0) (by rw[HSN.out];exact hfs);rw[HSN.out]at k2;have HFS:=yH hfs;have HOK:=yH ok;have HO:=yH ho;have HNX:=yH hnext;have z5:(k0==0)=false:=by simp;omega
   clear hfs ok ho hnext
   by_cases hfull:σ.fs.length=64
   ·have z6:((σ.fs.length:Int)==64)=true:=by simp;omega
    have NO:Hid ((aBm ps ls l fr pt get give n most).1=13):=yH (by
     have e:aBe ps fr pt get give 64 ⟨ls,l,[],n⟩=(13,σ):=by rw[HE.out,aFp (by rw[HSN.out];omega) (by rw[HSN.out];exact HFS.out) hfull]
     rw[OK.out,e];simp only[];rw[if_pos (by simp)])
    clear hfull;have z0:=KN9.out.cell 0;have z1:=KN9.out.cell 1;have zl:=KN9.out.lt;simp at z0 z1;go_wp2_with (refine aAb rfl 37 (.tmp 14) (.tmp 113) rfl (w.heap.size+1) #[.pointer none,.pointer none] rfl rfl 37 _ KZ9.out.out (by kernel_rfl) rfl (by simp[Value.oneCell']) ?_);refine bodyPost_ret (v:=.tuple #[.agg #[.pointer none,.pointer none],.slice none 0 0,.int .i64 13]) (aAi rfl _ _ (w.heap.size+1) 37 #[.pointer none,.pointer none] _ _ _ rfl (setRow_heap _ (w.heap.size+1) _ _ _ (0,0) KZ9.out.out) Tryz.underlying37 rfl (by kernel_rfl) rfl rfl) rfl ?_;exact .inl ⟨13,by decide,NO.out,rfl,below_setRow B9.out (by omega) _⟩
   have z6:((σ.fs.length:Int)==64)=false:=by simp;omega
   have hl64:σ.fs.length+1≤64:=by omega
   have HL64:=yH hl64;have CDo:=yH (rdoS_any RL9.out SI.out.linv RB9.out SI.out.binv s0 fr pt k0 HF.out HTo.out ⟨by omega,by omega⟩);have c0:=KC9.out.cell 0;have c1:=KC9.out.cell 1;have cl0:=KC9.out.lt;simp at c0 c1;clear hfull hl64;go_wp2_with fail;refine CDo.out.mono ?_;rintro e wd hd;clear c0 c1 cl0 CDo;rcases hd with⟨hno,_⟩|⟨_,o',x,vl',vb',ho',hx,rfl,hRL',hRB',kk⟩
   ·exact absurd HOK.out hno
   rw[HO.out]at ho'
   cases ho'
   have EN:Hid (aGc ps fr pt σ s0 k0=⟨aC9 ps σ.ls o fr pt k0 x,aCo σ.l s0 k0,σ.fs++[⟨s0,k0,x⟩],sn - k0⟩):=yH (by unfold aGc;rw[HO.out,hx,←HSN.out]);have KCd:=yH (KC9.out.keep kk (by have:=GE.out;omega));have KZd:=yH (KZ9.out.keep kk (by have:=GE.out;omega));have KNd:=yH (KN9.out.keep kk (by have:=GE.out;omega))
   have OOd:=yH (aAm OO9.out kk (fun b hb h=>by
    rcases h with h|h
    ·subst h;exact aAl OO9.out RL9.out.blk (by decide) _ hb rfl
    subst h;exact aAl OO9.out RB9.out.blk (by decide) _ hb rfl))
   have KKd:=yH (KK9.out.trans kk);have bf:=(Below.refl wd.heap.size wd).alloc yL (.cells #[.int .u64 s0,.int .u8 fr,.int .u8 pt,.int .i64 k0,.int .i64 x] 102);have KF:=yH (pAA wd #[.int .u64 s0,.int .u8 fr,.int .u8 pt,.int .i64 k0,.int .i64 x] 102);have RLf:=yH (hRL'.below bf);have RBf:=yH (hRB'.below bf);have OOf:=yH (aAc OOd.out bf);have KKf:=yH (KKd.out.trans (pAE (S:=fun k=>k=cl∨k=cb) bf));clear bf hRL' hRB' kk hx RL9 RB9 OO9 KK9 KC9 KZ9 KN9 KCd KZd KNd OOd KKd B9;generalize hWF:wd.alloc (.cells #[.int .u64 s0,.int .u8 fr,.int .u8 pt,.int .i64 k0,.int .i64 x] 102)=WF at *;have HWF:=yH hWF;clear hWF;have f0:=KF.out.cell 0;have f1:=KF.out.cell 1;have f2:=KF.out.cell 2;have f3:=KF.out.cell 3;have f4:=KF.out.cell 4;have fl:=KF.out.lt;simp at f0 f1 f2 f3 f4;have hb5:=KKf.out.size
   go_upto_region 15 with fail
   rw[HWF.out];go_wp2_with (at_builtin;refine aC6 _ rfl (.tmp 127) (.tmp 129) 47 102 rfl Tryz.underlying47 info_fl rfl (by decide) (by decide) W5.heap.size _ σ.fs.length _ rfl (OOf.out.alloc _) WF.heap.size 1 [.int .u64 s0,.int .u8 fr,.int .u8 pt,.int .i64 k0,.int .i64 x] rfl rfl (pAA _ _ _) (by simp[Value.oneCell']) (by have:=HL64.out;omega) (by simp;omega) ?_);intro v2 w2 ho2 hg2;have KG:Keep (fun k=>(Value.slice ao σ.fs.length cap).ownBlock=some k) WF w2:=((Keep.refl _ WF).alloc _).grown hg2 (fun k hk=>.inl hk);have RL2:=yH (RLf.out.keep KG (fun h=>aAl OOf.out RLf.out.blk (by decide) _ h rfl) (fun b hb h=>aFo OOf.out RLf.out.p (by decide) b h hb) (fun b hb h=>aFo OOf.out RLf.out.l (by decide) b h hb));have RB2:=yH (RBf.out.keep KG (fun h=>aAl OOf.out RBf.out.blk (by decide) _ h rfl) (fun b hb h=>aFo OOf.out RBf.out.row (by decide) b h hb));have KK2:=yH (KKf.out.trans_new KG (fun j hj h=>by have:=(aAe OOf.out h).1;omega));have O2:=yH (show w2.ownsRow W5.heap.size 102 5 v2 (σ.fs++[(⟨s0,k0,x⟩:Fl)]).length (aCp fr pt (σ.fs++[(⟨s0,k0,x⟩:Fl)]))from by rw[aJy];simpa [Fl.vals]using ho2)
   have HE2:Hid (aBe ps fr pt get give 64 ⟨ls,l,[],n⟩=aBe ps fr pt get give (64 - (σ.fs.length+1)) (aGc ps fr pt σ s0 k0)):=yH (by
    rw[HE.out,←aD8 (by rw[HSN.out];omega) (by rw[HSN.out];exact HFS.out) (by have:=HL64.out;omega)];congr 1;have:=HL64.out;omega)
   have NX2:=yH HNX.out;rw[EN.out]at HE2 NX2;clear KG ho2 hg2 f0 f1 f2 f3 f4 fl hb5 EN HNX HE;go_wp2_with fail;exact⟨⟨⟨aC9 ps σ.ls o fr pt k0 x,aCo σ.l s0 k0,σ.fs++[⟨s0,k0,x⟩],sn - k0⟩,_,_,_,rfl,RL2.out,RB2.out,O2.out,NX2.out,by simp;have:=HL64.out;omega,KK2.out,yH (by rw[HE2.out];simp)⟩,by simp[intOf];omega⟩
 have q0:decide (0<sn)=false:=by simpa using hn0
 have CG:=yH (aJi OO.out (fun f hf=>by obtain⟨_,_,_,_,_,_,_,h1,h2⟩:=SI.out.fs f hf;exact⟨by omega,by omega⟩) (by omega));have GB:=SI.out.given_bd;have HEN:Hid (aBe ps fr pt get give 64 ⟨ls,l,[],n⟩=(0,σ)):=yH (by rw[HE.out,aEp (by rw[HSN.out];omega)]);obtain⟨gs,hgs⟩:∃gs,(σ.fs.map Fl.gi).sum=gs:=⟨_,rfl⟩;rw[hgs]at CG GB;have hok:okN gs=gs:=if_pos ⟨by omega,by omega⟩;rw[hok]at CG;have HGS:=yH hgs;clear hgs hok;go_wp2_with fail;refine CG.out.mono ?_;rintro e wg ⟨rfl,bg⟩;have KCg:=yB KCr bg;have KZg:=yB KZr bg;have KNg:=yB KNr bg;have RLg:=yH (RL.out.below bg);have RBg:=yH (RB.out.below bg);have OOg:=yH (aAc OO.out bg);have Bg:=yT BR bg;clear bg CG KCr KZr KNr RL RB OO BR
 by_cases hq:most<gs
 ·have q1:decide (most<gs)=true:=by simpa using hq
  have NO:Hid ((aBm ps ls l fr pt get give n most).1=12):=yH (by rw[OK.out,HEN.out];simp only[];rw[if_neg (by simp),HGS.out,if_pos hq]);clear hq;have z0:=KNg.out.cell 0;have z1:=KNg.out.cell 1;have zl:=KNg.out.lt;simp at z0 z1;go_wp2_with (refine aAb rfl 37 (.tmp 14) (.tmp 138) rfl (w.heap.size+1) #[.pointer none,.pointer none] rfl rfl 37 _ KZg.out.out (by kernel_rfl) rfl (by simp[Value.oneCell']) ?_);refine bodyPost_ret (v:=.tuple #[.agg #[.pointer none,.pointer none],.slice none 0 0,.int .i64 12]) (aAi rfl _ _ (w.heap.size+1) 37 #[.pointer none,.pointer none] _ _ _ rfl (setRow_heap _ (w.heap.size+1) _ _ _ (0,0) KZg.out.out) Tryz.underlying37 rfl (by kernel_rfl) rfl rfl) rfl ?_;exact .inl ⟨12,by decide,NO.out,rfl,below_setRow Bg.out (by omega) _⟩
 have q1:decide (most<gs)=false:=by simpa using hq
 have YES:Hid (aBm ps ls l fr pt get give n most=(0,σ)):=yH (by rw[OK.out,HEN.out];simp only[];rw[if_neg (by simp),HGS.out,if_neg hq]);clear hq;have z0:=KCg.out.cell 0;have z1:=KCg.out.cell 1;have zl:=KCg.out.lt;simp at z0 z1;go_wp2_with (refine aAb rfl 37 (.tmp 14) (.tmp 139) rfl (w.heap.size+1) #[.pointer (some ⟨cl,0,none⟩),.pointer (some ⟨cb,0,none⟩)] rfl rfl 37 _ KZg.out.out (by kernel_rfl) rfl (by simp[Value.oneCell']) ?_);refine bodyPost_ret (v:=.tuple #[.agg #[.pointer (some ⟨cl,0,none⟩),.pointer (some ⟨cb,0,none⟩)],_,.int .i64 0]) (aAi rfl _ _ (w.heap.size+1) 37 #[.pointer (some ⟨cl,0,none⟩),.pointer (some ⟨cb,0,none⟩)] _ _ _ rfl (setRow_heap _ (w.heap.size+1) _ _ _ (0,0) KZg.out.out) Tryz.underlying37 rfl (by kernel_rfl) rfl rfl) rfl ?_;have kk:=aAg (w:=wg) (w.heap.size+1) #[.pointer (some ⟨cl,0,none⟩),.pointer (some ⟨cb,0,none⟩)];refine .inr ⟨by rw[YES.out],cl,cb,vp,vl,vb,_,σ,by rw[YES.out],rfl,RLg.out.keep kk ?_ ?_ ?_,RBg.out.keep kk ?_ ?_,?_,?_,?_,below_setRow Bg.out (by omega) _⟩
 ·have:=GE.out;omega
 ·exact fun b hb=>aAl RLg.out.p KZg.out (by decide) b hb
 ·exact fun b hb=>aAl RLg.out.l KZg.out (by decide) b hb
 ·have:=GE.out;omega
 ·exact fun b hb=>aAl RBg.out.row KZg.out (by decide) b hb
 ·exact aBd (aAm OOg.out kk (fun b hb=>aAl OOg.out KZg.out (by decide) b hb)) (by have:=B5.out.size;omega)
 ·have:=GE.out;omega
 have:=GE.out;omega
theorem clipFl_any{w:World}{base:Nat}{v:Value}{n:Nat}{xs:List Value}(h:w.ownsRow base 80 5 v n xs):
  Calls Tryz.prog 86 #[v] w (aG3 w base 80 5 n v xs):=by
 rcases h.2 with⟨rfl,h0⟩|⟨g,cap,cur,rfl,hbase,hb,h1,h2,h3,h4⟩
 ·subst h0;have hr:=aBr (P:=Tryz.prog) w 43 80 5 Tryz.underlying43 (Tryz.sizeOf80 w);have hx:=h.1;have hx2:=yH hx;clear h hx;go_enter Tryz.func86,Tryz.ntmps86;go_wp2;refine bodyPost_ret (v:=.slice none 0 0) (by simp[results,Tryz.results86,go_sem]) rfl ?_;exact⟨_,rfl,⟨hx2.out,.inl ⟨rfl,rfl⟩⟩,rfl,rfl⟩
 have hr:=aCm (P:=Tryz.prog) w 43 80 5 Tryz.underlying43 (Tryz.sizeOf80 w) g n cap h1;have HR:=yH (show aC8 w base 80 5 (.slice (some ⟨g,0,none⟩) n n) n xs from⟨h.1,.inr ⟨g,cur,rfl,hbase,hb,by omega,by omega,h4⟩⟩);clear h hb h4 h3;unfold maxLen at h2;go_enter Tryz.func86,Tryz.ntmps86;go_wp2;refine bodyPost_ret (v:=.slice (some ⟨g,0,none⟩) n n) (by simp[results,Tryz.results86,go_sem]) rfl ?_;exact⟨_,rfl,HR.out,rfl,rfl⟩
def SumNil(w:World)(i:Value)(wr:World):Prop:=i=.int .i64 0∧Below w.heap.size w wr∧Blk wr w.heap.size #[.int .u64 0,.int .u64 0] 155
theorem psum_nil(a:Option Addr)(cap:Nat)(w:World):Calls Tryz.prog 46 #[.slice a 0 cap] w (yR w (ans 0)):=by
 go_enter Tryz.func46,Tryz.ntmps46;go_wp2
 go_loopw [9] (SumNil w) (fun _ _=>0)
 case atStart=>exact⟨rfl,yZ.alloc yL _,pAA _ _ _⟩
 obtain⟨rfl,hb,hblk⟩:=hrel;have hg:=hblk.lt;have hc0:wr.cell? ⟨w.heap.size,0,none⟩=some (.int .u64 0):=hblk.cell 0;have hc1:wr.cell? ⟨w.heap.size,1,none⟩=some (.int .u64 0):=hblk.cell 1;have hn:=aHc 0 wr (by omega) (by omega);simp only[aCr,show hi64 0=0 by decide,show lo64 0=0 by decide]at hn;go_wp2_with fail;refine hn.mono ?_;rintro e w4 ⟨rfl,b4⟩;unfold ans;go_wp2;go_ret2;exact⟨rfl,hb.trans (b4.mono (Nat.le_of_lt hg))⟩
theorem psum_lst(a:Option Addr)(cap:Nat)(zs:List Int)(w:World)(hz:∀z∈zs,In64 z)(hl:zs.length≤140737488355328)(ha:Lst .i64 w a cap zs):
  Calls Tryz.prog 46 #[.slice a zs.length cap] w (yR w (ans zs.sum)):=by
 rcases ha with⟨rfl,_⟩|⟨b,off,rfl,_,hlt,hc⟩
 ·exact psum_nil a cap w
 exact sum_any b off cap zs w hz hl hlt hc
def aOk(w:World)(ao:Option Addr)(tk pt:Int)(fs:List Fl):Prop:=
 ∀k (h:k<fs.length),∃b,ao=some ⟨b,0,none⟩∧∀w',Below w.heap.size w w'→b<w'.heap.size∧∀j,j<5→w'.cell? ⟨b,k*5+j,none⟩=(fs[k].vals tk pt)[j]?
def PGvAt(W:World)(fs:List Fl)(v i:Value)(wr:World):Prop:=
 ∃k:Nat,k≤fs.length∧i=.int .i64 k∧wr.ownsRow W.heap.size 2 1 v k (((fs.take k).map Fl.gi).map (.int .i64))∧Below W.heap.size W wr
theorem aIu{w:World}{ao:Option Addr}{cap:Nat}{tk pt:Int}{fs:List Fl}(hv:aOk w ao tk pt fs)(h64:∀f∈fs,In64 f.gi)(hlen:fs.length≤1000)(hc1:fs.length≤cap)(hc2:cap≤maxLen):
  Calls Tryz.prog 14 #[.slice ao fs.length cap] w (yR w (.int .i64 (okN (fs.map Fl.gi).sum))):=by
 have HV:=yH hv;have H64:=yH h64;unfold maxLen at hc2;clear hv h64;go_enter Tryz.func14,Tryz.ntmps14;go_wp2_with fail
 go_loopw [3,5,10] (fun v _ i wr=>PGvAt w fs v i wr) (fun _ _ i _=>fs.length - (intOf i).toNat)
 case atStart=>exact⟨0,by omega,rfl,World.ownsRow_nil w _ _ _,yZ⟩
 obtain⟨k,hk,rfl,ho,hb⟩:=hrel
 by_cases hkl:k<fs.length
 ·have hki:(k:Int)<(fs.length:Int):=by omega
  have hk0:(0:Int)≤(k:Int):=by omega
  have q0:decide ((k:Int)<(fs.length:Int))=true:=by simpa using hkl
  obtain⟨b,hbb,hc⟩:=HV.out k hkl;subst hbb;obtain⟨hbl,hcj⟩:=hc wr hb;have c0:=hcj 0 (by omega);have c1:=hcj 1 (by omega);have c2:=hcj 2 (by omega);have c3:=hcj 3 (by omega);have c4:=hcj 4 (by omega)
  have HT:Hid (((fs.take (k+1)).map Fl.gi).map (Value.int .i64)=((fs.take k).map Fl.gi).map (.int .i64)++[.int .i64 fs[k].gi]):=yH (by
   rw[List.take_succ_eq_append_getElem hkl,List.map_append,List.map_append];rfl)
  simp only[Fl.vals,List.getElem?_cons_zero,List.getElem?_cons_succ]at c0 c1 c2 c3 c4;have OO:=yH ho;have BB:=yH hb;have HK:=yH hkl;clear ho hb hc hcj;generalize fs[k]=f at *;obtain⟨se,got,x⟩:=f;dsimp only at c0 c1 c2 c3 c4 HT;clear hkl;rw[Nat.add_zero]at c0;go_wp2_with (at_builtin;refine aC6 _ rfl (.tmp 14) (.tmp 17) 105 2 rfl Tryz.underlying105 info_i64 rfl (by decide) (by decide) w.heap.size _ k _ rfl ((OO.out.alloc _).alloc _) (wr.heap.size+1) 1 [.int .i64 x] rfl rfl (pAC _ _ _ (by simp)) (by simp[Value.oneCell']) (by omega) (by have:=BB.out.size;simp;omega) ?_);intro v2 w2 ho2 hg2;have HO2:=yH (show w2.ownsRow w.heap.size 2 1 v2 (k+1) (((fs.take (k+1)).map Fl.gi).map (.int .i64))from by rw[HT.out];simpa [List.map_take]using ho2);have BB2:=yH (below_ag (BB.out.alloc BB.out.size _) (by have:=BB.out.size;simp;omega) hg2 (fun b hb=>(aAe OO.out hb).1));clear ho2 hg2;go_wp2_with fail;exact⟨⟨k+1,by have:=HK.out;omega,by go_num,HO2.out,BB2.out⟩,by simp[intOf];have:=HK.out;omega⟩
 have hkn:k=fs.length:=by omega
 subst hkn;have q0:decide (((fs.length:Nat):Int)<(fs.length:Int))=false:=by simp
 rw[List.take_length]at ho;obtain⟨a2,cap2,rfl,d1,d2,_,_⟩:=aAd ho;have CS:=yH (psum_lst a2 cap2 (fs.map Fl.gi) wr (by intro z hz;obtain⟨f,hf,rfl⟩:=List.mem_map.1 hz;exact H64.out f hf) (by simp;omega) (own_lst ho (by simp)));rw[List.length_map]at CS;unfold ans at CS;have BB:=yH hb;clear hb ho;go_wp2_with fail;refine CS.out.mono ?_;rintro e w2 ⟨rfl,b2⟩;have B2:=yT BB b2;clear b2;go_wp2_with fail;go_ret;exact⟨rfl,B2.out⟩
theorem pgiven_any{w:World}{base:Nat}{tk pt:Int}{fs:List Fl}{v:Value}(hv:w.ownsRow base 80 5 v fs.length (aCp tk pt fs))(h64:∀f∈fs,In64 f.gi)(hlen:fs.length≤1000):
  Calls Tryz.prog 14 #[v] w (yR w (.int .i64 (okN (fs.map Fl.gi).sum))):=by
 obtain⟨ao,cap,rfl,hc1,hc2,hc3,hc4⟩:=aAd hv;exact aIu (fun k hk=>aL0 hv hk) h64 hlen hc1 hc2
theorem aH4{w:World}{base:Nat}{ao:Option Addr}{n cap:Nat}{e:TypeId}{tk pt:Int}{fs:List Fl}(h:aC8 w base e 5 (.slice ao n cap) n (aCp tk pt fs)):aOk w ao tk pt fs:=by
 intro k hk;have hz:=aLy tk pt fs;obtain⟨ao',cap',hv,_,_,hl,h4⟩:=h.look
 cases hv
 obtain⟨b,rfl,_,hb,hc,_⟩:=h4 (by omega);refine⟨b,rfl,fun w' q=>⟨yM hb q.size,fun j hj=>?_⟩⟩;rw[q.cell (p:=⟨b,k*5+j,none⟩) hb,hc _ (by omega),aLz tk pt fs k j hj hk]
end Go.Proofs.YtojbmnbphdcjfaaGreat
