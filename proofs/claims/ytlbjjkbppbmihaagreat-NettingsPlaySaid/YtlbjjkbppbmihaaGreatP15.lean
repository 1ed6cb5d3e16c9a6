/-
  Pieces of one proof, without what is not wanted: Ref03e.
-/
import Derived.Test.YtlbjjkbppbmihaaGreatP06
set_option linter.unusedSimpArgs false
set_option linter.unusedVariables false
namespace Go.Proofs.YtlbjjkbppbmihaaGreat
open Go.RowKit
theorem lineV_at (ls:List Ln) (a b c:Int):lineV (lineL ls a b c)=.tuple #[.agg #[.int .u8 (lnAt ls a b c).cr,.int .u8 (lnAt ls a b c).de,.int .u8 (lnAt ls a b c).cu,.int .i64 (lnAt ls a b c).li,.int .i64 (lnAt ls a b c).db],.bool (lineL ls a b c).isSome]:=by
 unfold lnAt lineV Ln.val
 cases lineL ls a b c <;> rfl
set_option maxHeartbeats 2000000 in
theorem rroom_any {w:World} {base g:Nat} {ps:List Int} {ls:List Ln} {vp vl:Value} (h:RefL w base g ps ls vp vl) (hgood:∀ y ∈ ls,y.Good) (a b c:Int) :
  Calls Tryz.prog 32 #[.pointer (some ⟨g,0,none⟩),.int .u8 a,.int .u8 b,.int .u8 c] w fun e w'=>e=.returned (.int .i64 (roomL ps ls a b c))∧Below w.heap.size w w':=by
 have ca:=Lib.hid (rhas_any h a)
 have cb:=Lib.hid (rhas_any h b)
 have cx:=Lib.hid (rline_any h a b c)
 have cy:=Lib.hid (fun (w':World) (k:Below w.heap.size w w')=>rline_any (h.below k) b a c)
 have bx:=lnAt_bd hgood a b c
 have by':=lnAt_bd hgood b a c
 rw [lineV_at] at cx
 simp only [lineV_at] at cy
 have hs:a=b∨(a≠b∧a ∉ ps)∨(a≠b∧a ∈ ps∧b ∉ ps)∨(a≠b∧a ∈ ps∧b ∈ ps):=by
  by_cases h1:a=b <;> by_cases h2:a ∈ ps <;> by_cases h3:b ∈ ps <;> simp [h1,h2,h3]
 clear h hgood
 rcases hs with h1 | ⟨h1,h2⟩ | ⟨h1,h2,h3⟩ | ⟨h1,h2,h3⟩
 ·have E:=Lib.hid (show roomL ps ls a b c=0 by unfold roomL; rw [if_pos (.inl h1)])
  have q:(a==b)=true:=by simp [h1]
  clear h1
  go_enter Tryz.func32,Tryz.ntmps32
  go_wp2_with fail
  go_ret
  exact ⟨by rw [E.out]; rfl,Below.refl _ _⟩
 ·have E:=Lib.hid (show roomL ps ls a b c=0 by unfold roomL; rw [if_pos (.inr (.inl h2))])
  have q:(a==b)=false:=by simp [h1]
  rw [decide_eq_false h2] at ca
  clear h1 h2
  go_enter Tryz.func32,Tryz.ntmps32
  go_wp2_with fail
  refine ca.out.mono ?_
  rintro e w ⟨rfl,rfl⟩
  go_wp2_with fail
  go_ret
  exact ⟨by rw [E.out]; rfl,Below.refl _ _⟩
 ·have E:=Lib.hid (show roomL ps ls a b c=0 by unfold roomL; rw [if_pos (.inr (.inr h3))])
  have q:(a==b)=false:=by simp [h1]
  rw [decide_eq_true h2] at ca
  rw [decide_eq_false h3] at cb
  clear h1 h2 h3
  go_enter Tryz.func32,Tryz.ntmps32
  go_wp2_with fail
  refine ca.out.mono ?_
  rintro e w ⟨rfl,rfl⟩
  go_wp2_with fail
  refine cb.out.mono ?_
  rintro e w ⟨rfl,rfl⟩
  go_wp2_with fail
  go_ret
  exact ⟨by rw [E.out]; rfl,Below.refl _ _⟩
 ·have E:=Lib.hid (show roomL ps ls a b c=(lnAt ls a b c).db + (lnAt ls b a c).li - (lnAt ls b a c).db by unfold roomL; rw [if_neg (by simp [h1,h2,h3])])
  have q:(a==b)=false:=by simp [h1]
  rw [decide_eq_true h2] at ca
  rw [decide_eq_true h3] at cb
  clear h1 h2 h3
  generalize (lineL ls a b c).isSome=sx at *
  generalize lnAt ls a b c=x at *
  generalize lnAt ls b a c=y at *
  go_enter Tryz.func32,Tryz.ntmps32
  go_wp2_with fail
  refine ca.out.mono ?_
  rintro e w ⟨rfl,rfl⟩
  go_wp2_with fail
  refine cb.out.mono ?_
  rintro e w ⟨rfl,rfl⟩
  go_wp2_with fail
  refine cx.out.mono ?_
  rintro e w1 ⟨rfl,b1⟩
  have KX:=Lib.hid (Blk.new w1 #[.int .u8 x.cr,.int .u8 x.de,.int .u8 x.cu,.int .i64 x.li,.int .i64 x.db] 72)
  have B1:=Lib.hid (b1.alloc b1.size (.cells #[.int .u8 x.cr,.int .u8 x.de,.int .u8 x.cu,.int .i64 x.li,.int .i64 x.db] 72))
  have c2:=Lib.hid (cy.out _ B1.out)
  clear b1 cy
  go_wp2_with fail
  refine c2.out.mono ?_
  rintro e w2 ⟨rfl,b2⟩
  have KX2:=Lib.hid ((KX.out.below b2 KX.out.lt).alloc (.cells #[.int .u8 y.cr,.int .u8 y.de,.int .u8 y.cu,.int .i64 y.li,.int .i64 y.db] 72))
  have KY2:=Lib.hid (Blk.new w2 #[.int .u8 y.cr,.int .u8 y.de,.int .u8 y.cu,.int .i64 y.li,.int .i64 y.db] 72)
  have B2:=Lib.hid (((B1.out.trans (b2.mono B1.out.size))).alloc (B1.out.trans (b2.mono B1.out.size)).size (.cells #[.int .u8 y.cr,.int .u8 y.de,.int .u8 y.cu,.int .i64 y.li,.int .i64 y.db] 72))
  have d4:=KX2.out.cell 4
  simp at d4
  clear b2
  go_wp2_with fail
  go_ret
  exact ⟨by rw [E.out]; rfl,B2.out⟩
theorem trust_argE (ps:List Int) (ls:List Ln) (a b c n:Int) (h:a<1∨16<a∨b<1∨16<b∨c<1∨8<c∨a=b∨n<0∨1099511627776<n):trustE ps ls a b c n=1∧trustL ps ls a b c n=ls:=by
 have e:trustE ps ls a b c n=1:=by unfold trustE; rw [if_pos h]
 exact ⟨e,by unfold trustL; rw [e]; rfl⟩
set_option maxHeartbeats 2000000 in
set_option maxRecDepth 100000 in
theorem rtrust_arg {w:World} {base g:Nat} {ps:List Int} {ls:List Ln} {vp vl:Value} (a b c n:Int) (h:a<1∨16<a∨b<1∨16<b∨c<1∨8<c∨a=b∨n<0∨1099511627776<n) :
  Calls Tryz.prog 31 #[.pointer (some ⟨g,0,none⟩),.int .u8 a,.int .u8 b,.int .u8 c,.int .i64 n] w fun e w'=>e=.returned (.int .i64 1)∧w'=w:=by
 have hs:a<1∨(1≤a∧16<a)∨(1≤a∧a≤16∧b<1)∨(1≤a∧a≤16∧1≤b∧16<b)∨(1≤a∧a≤16∧1≤b∧b≤16∧c<1)∨(1≤a∧a≤16∧1≤b∧b≤16∧1≤c∧8<c)∨(1≤a∧a≤16∧1≤b∧b≤16∧1≤c∧c≤8∧(a==b)=true)∨(1≤a∧a≤16∧1≤b∧b≤16∧1≤c∧c≤8∧(a==b)=false∧n<0)∨(1≤a∧a≤16∧1≤b∧b≤16∧1≤c∧c≤8∧(a==b)=false∧0≤n∧1099511627776<n):=by
  by_cases e:a=b
  ·have:(a==b)=true:=by simp [e]
   rw [this]; simp; omega
  ·have:(a==b)=false:=by simp [e]
   rw [this]; simp; omega
 clear h
 rcases hs with h1 | ⟨h1,h2⟩ | ⟨h1,h2,h3⟩ | ⟨h1,h2,h3,h4⟩ | ⟨h1,h2,h3,h4,h5⟩ | ⟨h1,h2,h3,h4,h5,h6⟩ | ⟨h1,h2,h3,h4,h5,h6,h7⟩ | ⟨h1,h2,h3,h4,h5,h6,h7,h8⟩ | ⟨h1,h2,h3,h4,h5,h6,h7,h8,h9⟩
 all_goals
  go_enter Tryz.func31,Tryz.ntmps31
  go_wp2_with fail
  go_ret
  exact ⟨rfl,rfl⟩
set_option maxHeartbeats 4000000 in
set_option maxRecDepth 100000 in
theorem rtrust_debt {w:World} {base g:Nat} {ps:List Int} {ls:List Ln} {vp vl:Value} (h:RefL w base g ps ls vp vl) (hgood:∀ y ∈ ls,y.Good) (hlen:ls.length≤64) (a b c n:Int) (x:Ln) (sx:Bool)
  (h1:1≤a) (h2:a≤16) (h3:1≤b) (h4:b≤16) (h5:1≤c) (h6:c≤8) (h7:(a==b)=false) (h8:0≤n) (h9:n≤1099511627776) (x0:0≤x.db) (x1:x.db≤1099511627776) (hd:n<x.db)
  (ca:Hid (Calls Tryz.prog 64 #[.pointer (some ⟨g,0,none⟩),.int .u8 a] w fun e w'=>e=.returned (.bool true)∧w'=w))
  (cb:Hid (Calls Tryz.prog 64 #[.pointer (some ⟨g,0,none⟩),.int .u8 b] w fun e w'=>e=.returned (.bool true)∧w'=w))
  (cx:Hid (Calls Tryz.prog 40 #[.pointer (some ⟨g,0,none⟩),.int .u8 a,.int .u8 b,.int .u8 c] w fun e w'=>e=.returned (.tuple #[.agg #[.int .u8 x.cr,.int .u8 x.de,.int .u8 x.cu,.int .i64 x.li,.int .i64 x.db],.bool sx])∧Below w.heap.size w w')) :
  Calls Tryz.prog 31 #[.pointer (some ⟨g,0,none⟩),.int .u8 a,.int .u8 b,.int .u8 c,.int .i64 n] w fun e w'=>e=.returned (.int .i64 14)∧Below w.heap.size w w':=by
 have H:=Lib.hid h
 have hg:=h.blk.lt
 have HG:=Lib.hid hgood
 obtain ⟨ao,cap,rfl,hc1,hc2,_,_⟩:=owns_open h.l
 clear h hgood
 go_enter Tryz.func31,Tryz.ntmps31
 go_wp2_with fail
 refine ca.out.mono ?_
 rintro e w ⟨rfl,rfl⟩
 go_wp2_with fail
 refine cb.out.mono ?_
 rintro e w ⟨rfl,rfl⟩
 go_wp2_with fail
 refine cx.out.mono ?_
 rintro e w1 ⟨rfl,b1⟩
 have KX:=Lib.hid (Blk.new w1 #[.int .u8 x.cr,.int .u8 x.de,.int .u8 x.cu,.int .i64 x.li,.int .i64 x.db] 72)
 have B1:=Lib.hid (b1.alloc b1.size (.cells #[.int .u8 x.cr,.int .u8 x.de,.int .u8 x.cu,.int .i64 x.li,.int .i64 x.db] 72))
 have dg:=(H.out.blk.below B1.out hg).cell 1
 simp at dg
 have hg1:=(H.out.blk.below B1.out hg).lt
 clear b1
 go_wp2_with fail
 go_ret
 exact ⟨rfl,B1.out⟩
set_option maxHeartbeats 4000000 in
set_option maxRecDepth 100000 in
theorem rtrust_full {w:World} {base g:Nat} {ps:List Int} {ls:List Ln} {vp vl:Value} (h:RefL w base g ps ls vp vl) (hgood:∀ y ∈ ls,y.Good) (hlen:ls.length≤64) (a b c n:Int) (x:Ln) (sx:Bool)
  (h1:1≤a) (h2:a≤16) (h3:1≤b) (h4:b≤16) (h5:1≤c) (h6:c≤8) (h7:(a==b)=false) (h8:0≤n) (h9:n≤1099511627776) (x0:0≤x.db) (x1:x.db≤1099511627776) (hd:decide (n<x.db)=false) (hs:sx=false) (hn:0<n) (hf:64≤ls.length)
  (ca:Hid (Calls Tryz.prog 64 #[.pointer (some ⟨g,0,none⟩),.int .u8 a] w fun e w'=>e=.returned (.bool true)∧w'=w))
  (cb:Hid (Calls Tryz.prog 64 #[.pointer (some ⟨g,0,none⟩),.int .u8 b] w fun e w'=>e=.returned (.bool true)∧w'=w))
  (cx:Hid (Calls Tryz.prog 40 #[.pointer (some ⟨g,0,none⟩),.int .u8 a,.int .u8 b,.int .u8 c] w fun e w'=>e=.returned (.tuple #[.agg #[.int .u8 x.cr,.int .u8 x.de,.int .u8 x.cu,.int .i64 x.li,.int .i64 x.db],.bool sx])∧Below w.heap.size w w')) :
  Calls Tryz.prog 31 #[.pointer (some ⟨g,0,none⟩),.int .u8 a,.int .u8 b,.int .u8 c,.int .i64 n] w fun e w'=>e=.returned (.int .i64 9)∧Below w.heap.size w w':=by
 have H:=Lib.hid h
 have hg:=h.blk.lt
 have HG:=Lib.hid hgood
 obtain ⟨ao,cap,rfl,hc1,hc2,_,_⟩:=owns_open h.l
 clear h hgood
 go_enter Tryz.func31,Tryz.ntmps31
 go_wp2_with fail
 refine ca.out.mono ?_
 rintro e w ⟨rfl,rfl⟩
 go_wp2_with fail
 refine cb.out.mono ?_
 rintro e w ⟨rfl,rfl⟩
 go_wp2_with fail
 refine cx.out.mono ?_
 rintro e w1 ⟨rfl,b1⟩
 have KX:=Lib.hid (Blk.new w1 #[.int .u8 x.cr,.int .u8 x.de,.int .u8 x.cu,.int .i64 x.li,.int .i64 x.db] 72)
 have B1:=Lib.hid (b1.alloc b1.size (.cells #[.int .u8 x.cr,.int .u8 x.de,.int .u8 x.cu,.int .i64 x.li,.int .i64 x.db] 72))
 have dg:=(H.out.blk.below B1.out hg).cell 1
 simp at dg
 have hg1:=(H.out.blk.below B1.out hg).lt
 clear b1
 subst hs
 go_wp2_with fail
 go_ret
 exact ⟨rfl,B1.out⟩
set_option maxHeartbeats 4000000 in
set_option maxRecDepth 100000 in
theorem rtrust_there {w:World} {base g:Nat} {ps:List Int} {ls:List Ln} {vp vl:Value} (h:RefL w base g ps ls vp vl) (hgood:∀ y ∈ ls,y.Good) (hlen:ls.length≤64) (a b c n:Int) (x:Ln) (sx:Bool)
  (h1:1≤a) (h2:a≤16) (h3:1≤b) (h4:b≤16) (h5:1≤c) (h6:c≤8) (h7:(a==b)=false) (h8:0≤n) (h9:n≤1099511627776) (x0:0≤x.db) (x1:x.db≤1099511627776) (hd:decide (n<x.db)=false) (hs:sx=true)
  (ca:Hid (Calls Tryz.prog 64 #[.pointer (some ⟨g,0,none⟩),.int .u8 a] w fun e w'=>e=.returned (.bool true)∧w'=w))
  (cb:Hid (Calls Tryz.prog 64 #[.pointer (some ⟨g,0,none⟩),.int .u8 b] w fun e w'=>e=.returned (.bool true)∧w'=w))
  (cx:Hid (Calls Tryz.prog 40 #[.pointer (some ⟨g,0,none⟩),.int .u8 a,.int .u8 b,.int .u8 c] w fun e w'=>e=.returned (.tuple #[.agg #[.int .u8 x.cr,.int .u8 x.de,.int .u8 x.cu,.int .i64 x.li,.int .i64 x.db],.bool sx])∧Below w.heap.size w w')) :
  Calls Tryz.prog 31 #[.pointer (some ⟨g,0,none⟩),.int .u8 a,.int .u8 b,.int .u8 c,.int .i64 n] w fun e w'=>e=.returned (.int .i64 0)∧∃ vl',RefL w' base g ps (setL ls ⟨a,b,c,n,x.db⟩) vp vl'∧Keep (·=g) w w':=by
 have H:=Lib.hid h
 have hg:=h.blk.lt
 have HG:=Lib.hid hgood
 obtain ⟨ao,cap,rfl,hc1,hc2,_,_⟩:=owns_open h.l
 clear h hgood
 go_enter Tryz.func31,Tryz.ntmps31
 go_wp2_with fail
 refine ca.out.mono ?_
 rintro e w ⟨rfl,rfl⟩
 go_wp2_with fail
 refine cb.out.mono ?_
 rintro e w ⟨rfl,rfl⟩
 go_wp2_with fail
 refine cx.out.mono ?_
 rintro e w1 ⟨rfl,b1⟩
 have KX:=Lib.hid (Blk.new w1 #[.int .u8 x.cr,.int .u8 x.de,.int .u8 x.cu,.int .i64 x.li,.int .i64 x.db] 72)
 have B1:=Lib.hid (b1.alloc b1.size (.cells #[.int .u8 x.cr,.int .u8 x.de,.int .u8 x.cu,.int .i64 x.li,.int .i64 x.db] 72))
 have dg:=(H.out.blk.below B1.out hg).cell 1
 simp at dg
 have hg1:=(H.out.blk.below B1.out hg).lt
 clear b1
 subst hs
 have cs:=Lib.hid (rset_any (H.out.below B1.out) ⟨a,b,c,n,x.db⟩ (fits_mk ⟨by omega,by omega⟩ ⟨by omega,by omega⟩ ⟨by omega,by omega⟩ ⟨by omega,by omega⟩ ⟨by omega,by omega⟩) (fun y hy=>(HG.out y hy).fits) (by omega))
 unfold Ln.val at cs
 clear HG
 go_wp2_with fail
 refine cs.out.mono ?_
 rintro e w2 ⟨rfl,vl',hr,hk⟩
 have HR:=Lib.hid hr
 have HK:=Lib.hid (Keep.trans (Keep.of_below B1.out) hk)
 clear hr hk
 go_wp2_with fail
 go_ret
 exact ⟨rfl,vl',HR.out,HK.out⟩
set_option maxHeartbeats 4000000 in
set_option maxRecDepth 100000 in
theorem rtrust_zero {w:World} {base g:Nat} {ps:List Int} {ls:List Ln} {vp vl:Value} (h:RefL w base g ps ls vp vl) (hgood:∀ y ∈ ls,y.Good) (hlen:ls.length≤64) (a b c n:Int) (x:Ln) (sx:Bool)
  (h1:1≤a) (h2:a≤16) (h3:1≤b) (h4:b≤16) (h5:1≤c) (h6:c≤8) (h7:(a==b)=false) (h8:0≤n) (h9:n≤1099511627776) (x0:0≤x.db) (x1:x.db≤1099511627776) (hd:decide (n<x.db)=false) (hs:sx=false) (hn:decide (0<n)=false)
  (ca:Hid (Calls Tryz.prog 64 #[.pointer (some ⟨g,0,none⟩),.int .u8 a] w fun e w'=>e=.returned (.bool true)∧w'=w))
  (cb:Hid (Calls Tryz.prog 64 #[.pointer (some ⟨g,0,none⟩),.int .u8 b] w fun e w'=>e=.returned (.bool true)∧w'=w))
  (cx:Hid (Calls Tryz.prog 40 #[.pointer (some ⟨g,0,none⟩),.int .u8 a,.int .u8 b,.int .u8 c] w fun e w'=>e=.returned (.tuple #[.agg #[.int .u8 x.cr,.int .u8 x.de,.int .u8 x.cu,.int .i64 x.li,.int .i64 x.db],.bool sx])∧Below w.heap.size w w')) :
  Calls Tryz.prog 31 #[.pointer (some ⟨g,0,none⟩),.int .u8 a,.int .u8 b,.int .u8 c,.int .i64 n] w fun e w'=>e=.returned (.int .i64 0)∧∃ vl',RefL w' base g ps (setL ls ⟨a,b,c,n,x.db⟩) vp vl'∧Keep (·=g) w w':=by
 have H:=Lib.hid h
 have hg:=h.blk.lt
 have HG:=Lib.hid hgood
 obtain ⟨ao,cap,rfl,hc1,hc2,_,_⟩:=owns_open h.l
 clear h hgood
 go_enter Tryz.func31,Tryz.ntmps31
 go_wp2_with fail
 refine ca.out.mono ?_
 rintro e w ⟨rfl,rfl⟩
 go_wp2_with fail
 refine cb.out.mono ?_
 rintro e w ⟨rfl,rfl⟩
 go_wp2_with fail
 refine cx.out.mono ?_
 rintro e w1 ⟨rfl,b1⟩
 have KX:=Lib.hid (Blk.new w1 #[.int .u8 x.cr,.int .u8 x.de,.int .u8 x.cu,.int .i64 x.li,.int .i64 x.db] 72)
 have B1:=Lib.hid (b1.alloc b1.size (.cells #[.int .u8 x.cr,.int .u8 x.de,.int .u8 x.cu,.int .i64 x.li,.int .i64 x.db] 72))
 have dg:=(H.out.blk.below B1.out hg).cell 1
 simp at dg
 have hg1:=(H.out.blk.below B1.out hg).lt
 clear b1
 subst hs
 have cs:=Lib.hid (rset_any (H.out.below B1.out) ⟨a,b,c,n,x.db⟩ (fits_mk ⟨by omega,by omega⟩ ⟨by omega,by omega⟩ ⟨by omega,by omega⟩ ⟨by omega,by omega⟩ ⟨by omega,by omega⟩) (fun y hy=>(HG.out y hy).fits) (by omega))
 unfold Ln.val at cs
 clear HG
 go_wp2_with fail
 refine cs.out.mono ?_
 rintro e w2 ⟨rfl,vl',hr,hk⟩
 have HR:=Lib.hid hr
 have HK:=Lib.hid (Keep.trans (Keep.of_below B1.out) hk)
 clear hr hk
 go_wp2_with fail
 go_ret
 exact ⟨rfl,vl',HR.out,HK.out⟩
set_option maxHeartbeats 4000000 in
set_option maxRecDepth 100000 in
theorem rtrust_fits {w:World} {base g:Nat} {ps:List Int} {ls:List Ln} {vp vl:Value} (h:RefL w base g ps ls vp vl) (hgood:∀ y ∈ ls,y.Good) (hlen:ls.length≤64) (a b c n:Int) (x:Ln) (sx:Bool)
  (h1:1≤a) (h2:a≤16) (h3:1≤b) (h4:b≤16) (h5:1≤c) (h6:c≤8) (h7:(a==b)=false) (h8:0≤n) (h9:n≤1099511627776) (x0:0≤x.db) (x1:x.db≤1099511627776) (hd:decide (n<x.db)=false) (hs:sx=false) (hn:0<n) (hf:ls.length<64)
  (ca:Hid (Calls Tryz.prog 64 #[.pointer (some ⟨g,0,none⟩),.int .u8 a] w fun e w'=>e=.returned (.bool true)∧w'=w))
  (cb:Hid (Calls Tryz.prog 64 #[.pointer (some ⟨g,0,none⟩),.int .u8 b] w fun e w'=>e=.returned (.bool true)∧w'=w))
  (cx:Hid (Calls Tryz.prog 40 #[.pointer (some ⟨g,0,none⟩),.int .u8 a,.int .u8 b,.int .u8 c] w fun e w'=>e=.returned (.tuple #[.agg #[.int .u8 x.cr,.int .u8 x.de,.int .u8 x.cu,.int .i64 x.li,.int .i64 x.db],.bool sx])∧Below w.heap.size w w')) :
  Calls Tryz.prog 31 #[.pointer (some ⟨g,0,none⟩),.int .u8 a,.int .u8 b,.int .u8 c,.int .i64 n] w fun e w'=>e=.returned (.int .i64 0)∧∃ vl',RefL w' base g ps (setL ls ⟨a,b,c,n,x.db⟩) vp vl'∧Keep (·=g) w w':=by
 have H:=Lib.hid h
 have hg:=h.blk.lt
 have HG:=Lib.hid hgood
 obtain ⟨ao,cap,rfl,hc1,hc2,_,_⟩:=owns_open h.l
 clear h hgood
 go_enter Tryz.func31,Tryz.ntmps31
 go_wp2_with fail
 refine ca.out.mono ?_
 rintro e w ⟨rfl,rfl⟩
 go_wp2_with fail
 refine cb.out.mono ?_
 rintro e w ⟨rfl,rfl⟩
 go_wp2_with fail
 refine cx.out.mono ?_
 rintro e w1 ⟨rfl,b1⟩
 have KX:=Lib.hid (Blk.new w1 #[.int .u8 x.cr,.int .u8 x.de,.int .u8 x.cu,.int .i64 x.li,.int .i64 x.db] 72)
 have B1:=Lib.hid (b1.alloc b1.size (.cells #[.int .u8 x.cr,.int .u8 x.de,.int .u8 x.cu,.int .i64 x.li,.int .i64 x.db] 72))
 have dg:=(H.out.blk.below B1.out hg).cell 1
 simp at dg
 have hg1:=(H.out.blk.below B1.out hg).lt
 clear b1
 subst hs
 have cs:=Lib.hid (rset_any (H.out.below B1.out) ⟨a,b,c,n,x.db⟩ (fits_mk ⟨by omega,by omega⟩ ⟨by omega,by omega⟩ ⟨by omega,by omega⟩ ⟨by omega,by omega⟩ ⟨by omega,by omega⟩) (fun y hy=>(HG.out y hy).fits) (by omega))
 unfold Ln.val at cs
 clear HG
 go_wp2_with fail
 refine cs.out.mono ?_
 rintro e w2 ⟨rfl,vl',hr,hk⟩
 have HR:=Lib.hid hr
 have HK:=Lib.hid (Keep.trans (Keep.of_below B1.out) hk)
 clear hr hk
 go_wp2_with fail
 go_ret
 exact ⟨rfl,vl',HR.out,HK.out⟩
set_option maxHeartbeats 2000000 in
set_option maxRecDepth 100000 in
theorem rtrust_none {w:World} {g:Nat} (a b c n:Int) (pa:Bool)
  (h1:1≤a) (h2:a≤16) (h3:1≤b) (h4:b≤16) (h5:1≤c) (h6:c≤8) (h7:(a==b)=false) (h8:0≤n) (h9:n≤1099511627776)
  (ca:Hid (Calls Tryz.prog 64 #[.pointer (some ⟨g,0,none⟩),.int .u8 a] w fun e w'=>e=.returned (.bool pa)∧w'=w))
  (cb:Hid (Calls Tryz.prog 64 #[.pointer (some ⟨g,0,none⟩),.int .u8 b] w fun e w'=>e=.returned (.bool false)∧w'=w)) :
  Calls Tryz.prog 31 #[.pointer (some ⟨g,0,none⟩),.int .u8 a,.int .u8 b,.int .u8 c,.int .i64 n] w fun e w'=>e=.returned (.int .i64 7)∧w'=w:=by
 cases pa
 ·go_enter Tryz.func31,Tryz.ntmps31
  go_wp2_with fail
  refine ca.out.mono ?_
  rintro e w ⟨rfl,rfl⟩
  go_wp2_with fail
  go_ret
  exact ⟨rfl,rfl⟩
 ·go_enter Tryz.func31,Tryz.ntmps31
  go_wp2_with fail
  refine ca.out.mono ?_
  rintro e w ⟨rfl,rfl⟩
  go_wp2_with fail
  refine cb.out.mono ?_
  rintro e w ⟨rfl,rfl⟩
  go_wp2_with fail
  go_ret
  exact ⟨rfl,rfl⟩
set_option maxHeartbeats 2000000 in
set_option maxRecDepth 100000 in
theorem rtrust_none1 {w:World} {g:Nat} (a b c n:Int)
  (h1:1≤a) (h2:a≤16) (h3:1≤b) (h4:b≤16) (h5:1≤c) (h6:c≤8) (h7:(a==b)=false) (h8:0≤n) (h9:n≤1099511627776)
  (ca:Hid (Calls Tryz.prog 64 #[.pointer (some ⟨g,0,none⟩),.int .u8 a] w fun e w'=>e=.returned (.bool false)∧w'=w)) :
  Calls Tryz.prog 31 #[.pointer (some ⟨g,0,none⟩),.int .u8 a,.int .u8 b,.int .u8 c,.int .i64 n] w fun e w'=>e=.returned (.int .i64 7)∧w'=w:=by
 go_enter Tryz.func31,Tryz.ntmps31
 go_wp2_with fail
 refine ca.out.mono ?_
 rintro e w ⟨rfl,rfl⟩
 go_wp2_with fail
 go_ret
 exact ⟨rfl,rfl⟩
theorem rtrust_any {w:World} {base g:Nat} {ps:List Int} {ls:List Ln} {vp vl:Value} (h:RefL w base g ps ls vp vl) (hgood:∀ y ∈ ls,y.Good) (hlen:ls.length≤64) (a b c n:Int) :
  Calls Tryz.prog 31 #[.pointer (some ⟨g,0,none⟩),.int .u8 a,.int .u8 b,.int .u8 c,.int .i64 n] w fun e w'=>e=.returned (.int .i64 (trustE ps ls a b c n))∧∃ vl',RefL w' base g ps (trustL ps ls a b c n) vp vl'∧Keep (·=g) w w':=by
 by_cases ha:a<1∨16<a∨b<1∨16<b∨c<1∨8<c∨a=b∨n<0∨1099511627776<n
 ·obtain ⟨e1,e2⟩:=trust_argE ps ls a b c n ha
  rw [e1,e2]
  exact (rtrust_arg a b c n ha (base:=base) (ps:=ps) (ls:=ls) (vp:=vp) (vl:=vl)).mono fun e w' ⟨he,hw⟩=>⟨he,vl,by rw [hw]; exact h,by rw [hw]; exact Keep.refl _ _⟩
 have h1:1≤a:=by omega
 have h2:a≤16:=by omega
 have h3:1≤b:=by omega
 have h4:b≤16:=by omega
 have h5:1≤c:=by omega
 have h6:c≤8:=by omega
 have h7:(a==b)=false:=by rw [beq_eq_false_iff_ne]; omega
 have h8:0≤n:=by omega
 have h9:n≤1099511627776:=by omega
 have ca:=Lib.hid (rhas_any h a)
 have cb:=Lib.hid (rhas_any h b)
 have cx:=Lib.hid (rline_any h a b c)
 rw [lineV_at] at cx
 have bx:=lnAt_bd hgood a b c
 have E:trustE ps ls a b c n=(if a ∉ ps∨b ∉ ps then 7 else if n<(lnAt ls a b c).db then 14 else if lineL ls a b c=none∧0<n∧64≤ls.length then 9 else 0):=by unfold trustE; rw [if_neg ha]
 by_cases pa:a ∈ ps
 ·by_cases pb:b ∈ ps
  ·rw [decide_eq_true pa] at ca
   rw [decide_eq_true pb] at cb
   rw [if_neg (by simp [pa,pb])] at E
   by_cases hd:n<(lnAt ls a b c).db
   ·rw [if_pos hd] at E
    rw [show trustL ps ls a b c n=ls by unfold trustL; rw [E]; rfl,E]
    exact (rtrust_debt h hgood hlen a b c n _ _ h1 h2 h3 h4 h5 h6 h7 h8 h9 (by omega) (by omega) hd ca cb cx).mono fun e w' ⟨he,hb⟩=>⟨he,vl,h.below hb,Keep.of_below hb⟩
   ·rw [if_neg hd] at E
    have hd':decide (n<(lnAt ls a b c).db)=false:=by simpa using hd
    by_cases hf:lineL ls a b c=none∧0<n∧64≤ls.length
    ·rw [if_pos hf] at E
     rw [show trustL ps ls a b c n=ls by unfold trustL; rw [E]; rfl,E]
     exact (rtrust_full h hgood hlen a b c n _ _ h1 h2 h3 h4 h5 h6 h7 h8 h9 (by omega) (by omega) hd' (by rw [hf.1]; rfl) hf.2.1 hf.2.2 ca cb cx).mono fun e w' ⟨he,hb⟩=>⟨he,vl,h.below hb,Keep.of_below hb⟩
    ·rw [if_neg hf] at E
     rw [show trustL ps ls a b c n=setL ls ⟨a,b,c,n,(lnAt ls a b c).db⟩ by unfold trustL; rw [E]; rfl,E]
     cases hl:lineL ls a b c with
     | some y=>exact rtrust_there h hgood hlen a b c n _ _ h1 h2 h3 h4 h5 h6 h7 h8 h9 (by omega) (by omega) hd' (by rw [hl]; rfl) ca cb cx
     | none =>
      by_cases hn:0<n
      ·exact rtrust_fits h hgood hlen a b c n _ _ h1 h2 h3 h4 h5 h6 h7 h8 h9 (by omega) (by omega) hd' (by rw [hl]; rfl) hn (Nat.lt_of_not_le fun k=>hf ⟨hl,hn,k⟩) ca cb cx
      ·exact rtrust_zero h hgood hlen a b c n _ _ h1 h2 h3 h4 h5 h6 h7 h8 h9 (by omega) (by omega) hd' (by rw [hl]; rfl) (by simpa using hn) ca cb cx
  ·rw [if_pos (.inr pb)] at E
   rw [show trustL ps ls a b c n=ls by unfold trustL; rw [E]; rfl,E]
   rw [decide_eq_false pb] at cb
   exact (rtrust_none a b c n _ h1 h2 h3 h4 h5 h6 h7 h8 h9 ca cb).mono fun e w' ⟨he,hw⟩=>⟨he,vl,by rw [hw]; exact h,by rw [hw]; exact Keep.refl _ _⟩
 ·rw [if_pos (.inl pa)] at E
  rw [show trustL ps ls a b c n=ls by unfold trustL; rw [E]; rfl,E]
  rw [decide_eq_false pa] at ca
  exact (rtrust_none1 a b c n h1 h2 h3 h4 h5 h6 h7 h8 h9 ca).mono fun e w' ⟨he,hw⟩=>⟨he,vl,by rw [hw]; exact h,by rw [hw]; exact Keep.refl _ _⟩
end Go.Proofs.YtlbjjkbppbmihaaGreat
namespace Go.Proofs.YtlbjjkbppbmihaaGreat
open Go.RowKit
set_option maxHeartbeats 4000000 in
set_option maxRecDepth 100000 in
theorem rforgive_any {w:World} {base g:Nat} {ps:List Int} {ls:List Ln} {vp vl:Value} (h:RefL w base g ps ls vp vl) (hgood:∀ y ∈ ls,y.Good) (hlen:ls.length≤64) (a b c n:Int) (hn64:In64 n) :
  Calls Tryz.prog 35 #[.pointer (some ⟨g,0,none⟩),.int .u8 a,.int .u8 b,.int .u8 c,.int .i64 n] w fun e w'=>e=.returned (.int .i64 (forgiveE ls a b c n))∧∃ vl',RefL w' base g ps (forgiveL ls a b c n) vp vl'∧Keep (·=g) w w':=by
 have H:=Lib.hid h
 have hg:=h.blk.lt
 have HG:=Lib.hid hgood
 have cx:=Lib.hid (rline_any h a b c)
 rw [lineV_at] at cx
 have bx:=lnAt_bd hgood a b c
 have FX:=Lib.hid (lnAt_fits hgood a b c)
 clear h hgood
 have hs:n<1∨(1≤n∧lineL ls a b c=none)∨(1≤n∧(lineL ls a b c).isSome=true∧(lnAt ls a b c).db<n)∨(1≤n∧(lineL ls a b c).isSome=true∧n≤(lnAt ls a b c).db):=by
  cases lineL ls a b c <;> simp <;> omega
 rcases hs with h1 | ⟨h1,h2⟩ | ⟨h1,h2,h3⟩ | ⟨h1,h2,h3⟩
 ·have e:forgiveE ls a b c n=1:=by unfold forgiveE; rw [if_pos h1]
  have e2:forgiveL ls a b c n=ls:=by unfold forgiveL; rw [e]; rfl
  rw [e,e2]
  clear e e2
  go_enter Tryz.func35,Tryz.ntmps35
  go_wp2_with fail
  go_ret
  exact ⟨rfl,vl,H.out,Keep.refl _ _⟩
 ·have e:forgiveE ls a b c n=7:=by unfold forgiveE; rw [if_neg (by omega),if_pos h2]
  have e2:forgiveL ls a b c n=ls:=by unfold forgiveL; rw [e]; rfl
  rw [e,e2]
  rw [h2] at cx
  clear e e2 h2
  generalize lnAt ls a b c=x at *
  go_enter Tryz.func35,Tryz.ntmps35
  go_wp2_with fail
  refine cx.out.mono ?_
  rintro e w1 ⟨rfl,b1⟩
  have B1:=Lib.hid (b1.alloc b1.size (.cells #[.int .u8 x.cr,.int .u8 x.de,.int .u8 x.cu,.int .i64 x.li,.int .i64 x.db] 72))
  clear b1
  go_wp2_with fail
  go_ret
  exact ⟨rfl,vl,H.out.below B1.out,Keep.of_below B1.out⟩
 ·have e:forgiveE ls a b c n=14:=by unfold forgiveE; rw [if_neg (by omega),if_neg (by intro k; rw [k] at h2; cases h2),if_pos h3]
  have e2:forgiveL ls a b c n=ls:=by unfold forgiveL; rw [e]; rfl
  rw [e,e2]
  rw [h2] at cx
  clear e e2 h2
  generalize lnAt ls a b c=x at *
  go_enter Tryz.func35,Tryz.ntmps35
  go_wp2_with fail
  refine cx.out.mono ?_
  rintro e w1 ⟨rfl,b1⟩
  have B1:=Lib.hid (b1.alloc b1.size (.cells #[.int .u8 x.cr,.int .u8 x.de,.int .u8 x.cu,.int .i64 x.li,.int .i64 x.db] 72))
  clear b1
  go_wp2_with fail
  go_ret
  exact ⟨rfl,vl,H.out.below B1.out,Keep.of_below B1.out⟩
 ·have e:forgiveE ls a b c n=0:=by unfold forgiveE; rw [if_neg (by omega),if_neg (by intro k; rw [k] at h2; cases h2),if_neg (by omega)]
  have e2:forgiveL ls a b c n=setL ls ((lnAt ls a b c).owe ((lnAt ls a b c).db - n)):=by unfold forgiveL; rw [e]; rfl
  rw [e,e2]
  rw [h2] at cx
  clear e e2 h2
  generalize lnAt ls a b c=x at *
  have h4:decide (x.db<n)=false:=by simp; omega
  go_enter Tryz.func35,Tryz.ntmps35
  go_wp2_with fail
  refine cx.out.mono ?_
  rintro e w1 ⟨rfl,b1⟩
  have B1:=Lib.hid (b1.alloc b1.size (.cells #[.int .u8 x.cr,.int .u8 x.de,.int .u8 x.cu,.int .i64 x.li,.int .i64 (x.db - n)] 72))
  have cs:=Lib.hid (rset_any (H.out.below B1.out) (x.owe (x.db - n)) ⟨FX.out.cr,FX.out.de,FX.out.cu,FX.out.li,⟨by show _≤x.db - n; omega,by show x.db - n≤_; omega⟩⟩ (fun y hy=>(HG.out y hy).fits) (by omega))
  unfold Ln.val Ln.owe at cs
  clear b1 HG
  go_wp2_with fail
  refine cs.out.mono ?_
  rintro e w2 ⟨rfl,vl',hr,hk⟩
  have HR:=Lib.hid hr
  have HK:=Lib.hid (Keep.trans (Keep.of_below B1.out) hk)
  clear hr hk
  go_wp2_with fail
  go_ret
  exact ⟨rfl,vl',HR.out,HK.out⟩
set_option maxHeartbeats 4000000 in
set_option maxRecDepth 100000 in
theorem rpush_no {w:World} {base g:Nat} {ps:List Int} {ls:List Ln} {vp vl:Value} (h:RefL w base g ps ls vp vl) (hgood:∀ y ∈ ls,y.Good) (a b c n:Int) (hn:n<1∨roomL ps ls a b c<n) :
  Calls Tryz.prog 33 #[.pointer (some ⟨g,0,none⟩),.int .u8 a,.int .u8 b,.int .u8 c,.int .i64 n] w fun e w'=>e=.returned (.int .i64 (pushE ps ls a b c n))∧Below w.heap.size w w':=by
 have cr:=Lib.hid (rroom_any h hgood a b c)
 clear h hgood
 by_cases h1:n<1
 ·have e:pushE ps ls a b c n=1:=by unfold pushE; rw [if_pos h1]
  rw [e]
  clear hn e
  go_enter Tryz.func33,Tryz.ntmps33
  go_wp2_with fail
  go_ret
  exact ⟨rfl,Below.refl _ _⟩
 ·have h2:roomL ps ls a b c<n:=by omega
  have e:pushE ps ls a b c n=11:=by unfold pushE; rw [if_neg h1,if_pos h2]
  rw [e]
  clear hn e
  generalize roomL ps ls a b c=r at *
  go_enter Tryz.func33,Tryz.ntmps33
  go_wp2_with fail
  refine cr.out.mono ?_
  rintro e w1 ⟨rfl,b1⟩
  go_wp2_with fail
  go_ret
  exact ⟨rfl,b1⟩
def PushEnd (w:World) (base g:Nat) (ps:List Int) (ls':List Ln) (vp:Value) (e:Ending) (w':World):Prop :=
 e=.returned (.int .i64 0)∧∃ vl',RefL w' base g ps ls' vp vl'∧Keep (·=g) w w'
set_option maxHeartbeats 8000000 in
set_option maxRecDepth 100000 in
theorem rpush_none {w:World} {base g:Nat} {ps:List Int} {ls:List Ln} {vp vl:Value} (h:RefL w base g ps ls vp vl) (hfit:∀ y ∈ ls,y.Fits) (hlen:ls.length≤100) (a b c n r:Int) (x y:Ln) (sy:Bool) (h1:1≤n) (hr:n≤r) (hr2:r≤2199023255552)
  (y0:0≤y.db) (y1:y.db≤1099511627776) (fy:y.Fits)
  (cr:Hid (Calls Tryz.prog 32 #[.pointer (some ⟨g,0,none⟩),.int .u8 a,.int .u8 b,.int .u8 c] w fun e w'=>e=.returned (.int .i64 r)∧Below w.heap.size w w'))
  (cx:Hid (∀ w',Below w.heap.size w w'→Calls Tryz.prog 40 #[.pointer (some ⟨g,0,none⟩),.int .u8 a,.int .u8 b,.int .u8 c] w' fun e w''=>e=.returned (.tuple #[.agg #[.int .u8 x.cr,.int .u8 x.de,.int .u8 x.cu,.int .i64 x.li,.int .i64 x.db],.bool false])∧Below w'.heap.size w' w''))
  (cy:Hid (∀ w',Below w.heap.size w w'→Calls Tryz.prog 40 #[.pointer (some ⟨g,0,none⟩),.int .u8 b,.int .u8 a,.int .u8 c] w' fun e w''=>e=.returned (.tuple #[.agg #[.int .u8 y.cr,.int .u8 y.de,.int .u8 y.cu,.int .i64 y.li,.int .i64 y.db],.bool sy])∧Below w'.heap.size w' w'')) :
  Calls Tryz.prog 33 #[.pointer (some ⟨g,0,none⟩),.int .u8 a,.int .u8 b,.int .u8 c,.int .i64 n] w (PushEnd w base g ps (setL ls (y.owe (y.db + n))) vp):=by
 have H:=Lib.hid h
 have hg:=h.blk.lt
 have HF:=Lib.hid hfit
 clear h hfit
 have q1:decide (r<n)=false:=by simp; omega
 go_enter Tryz.func33,Tryz.ntmps33
 go_wp2_with fail
 refine cr.out.mono ?_
 rintro e w1 ⟨rfl,b1⟩
 have c1:=Lib.hid (cx.out _ b1)
 have B1:=Lib.hid b1
 clear b1 cx cr
 go_wp2_with fail
 refine c1.out.mono ?_
 rintro e w2 ⟨rfl,b2⟩
 have B2:=Lib.hid ((B1.out.trans (b2.mono B1.out.size)).alloc (B1.out.trans (b2.mono B1.out.size)).size (.cells #[.int .u8 x.cr,.int .u8 x.de,.int .u8 x.cu,.int .i64 x.li,.int .i64 x.db] 72))
 have c2:=Lib.hid (cy.out _ B2.out)
 clear b2 cy c1
 go_wp2_with fail
 refine c2.out.mono ?_
 rintro e w3 ⟨rfl,b3⟩
 have B3:=Lib.hid ((B2.out.trans (b3.mono B2.out.size)).alloc (B2.out.trans (b3.mono B2.out.size)).size (.cells #[.int .u8 y.cr,.int .u8 y.de,.int .u8 y.cu,.int .i64 y.li,.int .i64 (y.db + n)] 72))
 have cs:=Lib.hid (rset_any (H.out.below B3.out) (y.owe (y.db + n)) ⟨fy.cr,fy.de,fy.cu,fy.li,⟨by show _≤y.db + n; omega,by show y.db + n≤_; omega⟩⟩ HF.out (by omega))
 unfold Ln.val Ln.owe at cs
 clear b3 c2 HF
 go_wp2_with fail
 refine cs.out.mono ?_
 rintro e w4 ⟨rfl,vl',hr,hk⟩
 have HR:=Lib.hid hr
 have HK:=Lib.hid (Keep.trans (Keep.of_below B3.out) hk)
 clear hr hk
 go_wp2_with fail
 refine bodyPost_ret (v:=.int .i64 0) (by simp [results,go_sem]) rfl ?_
 exact ⟨rfl,vl',HR.out,HK.out⟩
end Go.Proofs.YtlbjjkbppbmihaaGreat
namespace Go.Proofs.YtlbjjkbppbmihaaGreat
open Go.RowKit
theorem lnAt_of {P:Ln→Prop} {ls:List Ln} (h:∀ y ∈ ls,P y) (h0:P noLn) (a b c:Int):P (lnAt ls a b c):=by
 unfold lnAt
 cases e:lineL ls a b c with
 | none=>exact h0
 | some x=>exact h x (lineL_mem e).1
theorem noLn_fits:noLn.Fits∧0≤noLn.db∧noLn.db≤1099511627776:=⟨fits_mk (by decide) (by decide) (by decide) (by decide) (by decide),by decide,by decide⟩
set_option maxHeartbeats 8000000 in
set_option maxRecDepth 100000 in
theorem rpush_all {w:World} {base g:Nat} {ps:List Int} {ls:List Ln} {vp vl:Value} (h:RefL w base g ps ls vp vl) (hfit:∀ y ∈ ls,y.Fits∧0≤y.db∧y.db≤1099511627776) (hlen:ls.length≤100) (a b c n r:Int) (x:Ln) (h1:1≤n) (hr:n≤r) (hr2:r≤2199023255552)
  (x0:0≤x.db) (x1:x.db≤1099511627776) (fx:x.Fits) (hle:n≤x.db)
  (cr:Hid (Calls Tryz.prog 32 #[.pointer (some ⟨g,0,none⟩),.int .u8 a,.int .u8 b,.int .u8 c] w fun e w'=>e=.returned (.int .i64 r)∧Below w.heap.size w w'))
  (cx:Hid (∀ w',Below w.heap.size w w'→Calls Tryz.prog 40 #[.pointer (some ⟨g,0,none⟩),.int .u8 a,.int .u8 b,.int .u8 c] w' fun e w''=>e=.returned (.tuple #[.agg #[.int .u8 x.cr,.int .u8 x.de,.int .u8 x.cu,.int .i64 x.li,.int .i64 x.db],.bool true])∧Below w'.heap.size w' w'')) :
  Calls Tryz.prog 33 #[.pointer (some ⟨g,0,none⟩),.int .u8 a,.int .u8 b,.int .u8 c,.int .i64 n] w  (PushEnd w base g ps (setL ls (x.owe (x.db - n))) vp):=by
 have q2:min n x.db=n:=by omega
 have H:=Lib.hid h
 have hg:=h.blk.lt
 have HF:=Lib.hid hfit
 clear h hfit
 have q1:decide (r<n)=false:=by simp; omega
 go_enter Tryz.func33,Tryz.ntmps33
 go_wp2_with fail
 refine cr.out.mono ?_
 rintro e w1 ⟨rfl,b1⟩
 have c1:=Lib.hid (cx.out _ b1)
 have B1:=Lib.hid b1
 clear b1 cx cr
 go_wp2_with fail
 refine c1.out.mono ?_
 rintro e w2 ⟨rfl,b2⟩
 have B2:=Lib.hid ((B1.out.trans (b2.mono B1.out.size)).alloc (B1.out.trans (b2.mono B1.out.size)).size (.cells #[.int .u8 x.cr,.int .u8 x.de,.int .u8 x.cu,.int .i64 x.li,.int .i64 (x.db - n)] 72))
 have cs:=Lib.hid (rset_any (H.out.below B2.out) (x.owe (x.db - n)) ⟨fx.cr,fx.de,fx.cu,fx.li,⟨by show _≤x.db - n; omega,by show x.db - n≤_; omega⟩⟩ (fun y hy=>(HF.out y hy).1) (by omega))
 unfold Ln.val Ln.owe at cs
 clear b2 c1
 go_wp2_with fail
 refine cs.out.mono ?_
 rintro e w3 ⟨rfl,vl',hr,hk⟩
 have HR:=Lib.hid hr
 have HK:=Lib.hid (Keep.trans (Keep.of_below B2.out) hk)
 clear hr hk cs
 go_wp2_with fail
 refine bodyPost_ret (v:=.int .i64 0) (by simp [results,go_sem]) rfl ?_
 exact ⟨rfl,vl',HR.out,HK.out⟩
set_option maxHeartbeats 8000000 in
set_option maxRecDepth 100000 in
theorem rpush_part {w:World} {base g:Nat} {ps:List Int} {ls:List Ln} {vp vl:Value} (h:RefL w base g ps ls vp vl) (hfit:∀ y ∈ ls,y.Fits∧0≤y.db∧y.db≤1099511627776) (hlen:ls.length≤100) (a b c n r:Int) (x:Ln) (h1:1≤n) (hr:n≤r) (hr2:r≤2199023255552)
  (x0:0≤x.db) (x1:x.db≤1099511627776) (fx:x.Fits) (hlt:x.db<n)
  (cr:Hid (Calls Tryz.prog 32 #[.pointer (some ⟨g,0,none⟩),.int .u8 a,.int .u8 b,.int .u8 c] w fun e w'=>e=.returned (.int .i64 r)∧Below w.heap.size w w'))
  (cx:Hid (∀ w',Below w.heap.size w w'→Calls Tryz.prog 40 #[.pointer (some ⟨g,0,none⟩),.int .u8 a,.int .u8 b,.int .u8 c] w' fun e w''=>e=.returned (.tuple #[.agg #[.int .u8 x.cr,.int .u8 x.de,.int .u8 x.cu,.int .i64 x.li,.int .i64 x.db],.bool true])∧Below w'.heap.size w' w'')) :
  Calls Tryz.prog 33 #[.pointer (some ⟨g,0,none⟩),.int .u8 a,.int .u8 b,.int .u8 c,.int .i64 n] w  (PushEnd w base g ps (setL (setL ls (x.owe 0)) ((lnAt (setL ls (x.owe 0)) b a c).owe ((lnAt (setL ls (x.owe 0)) b a c).db + (n - x.db)))) vp):=by
 have q2:min n x.db=x.db:=by omega
 have H:=Lib.hid h
 have hg:=h.blk.lt
 have HF:=Lib.hid hfit
 clear h hfit
 have q1:decide (r<n)=false:=by simp; omega
 go_enter Tryz.func33,Tryz.ntmps33
 go_wp2_with fail
 refine cr.out.mono ?_
 rintro e w1 ⟨rfl,b1⟩
 have c1:=Lib.hid (cx.out _ b1)
 have B1:=Lib.hid b1
 clear b1 cx cr
 go_wp2_with fail
 refine c1.out.mono ?_
 rintro e w2 ⟨rfl,b2⟩
 have B2:=Lib.hid ((B1.out.trans (b2.mono B1.out.size)).alloc (B1.out.trans (b2.mono B1.out.size)).size (.cells #[.int .u8 x.cr,.int .u8 x.de,.int .u8 x.cu,.int .i64 x.li,.int .i64 0] 72))
 have cs:=Lib.hid (rset_any (H.out.below B2.out) (x.owe (0)) ⟨fx.cr,fx.de,fx.cu,fx.li,⟨show (-9223372036854775808:Int)≤0 by decide,show (0:Int)≤9223372036854775807 by decide⟩⟩ (fun y hy=>(HF.out y hy).1) (by omega))
 unfold Ln.val Ln.owe at cs
 clear b2 c1
 go_wp2_with fail
 refine cs.out.mono ?_
 rintro e w3 ⟨rfl,vl',hr,hk⟩
 have HR:=Lib.hid hr
 have HK:=Lib.hid (Keep.trans (Keep.of_below B2.out) hk)
 clear hr hk cs
 have hl1:=setL_len ls (x.owe 0)
 have hf1:∀ y ∈ setL ls (x.owe 0),y.Fits∧0≤y.db∧y.db≤1099511627776:=by
  intro y hy
  rcases setL_mem hy with hy | ⟨rfl,_⟩
  ·exact HF.out y hy
  ·exact ⟨⟨fx.cr,fx.de,fx.cu,fx.li,⟨show (-9223372036854775808:Int)≤0 by decide,show (0:Int)≤9223372036854775807 by decide⟩⟩,show (0:Int)≤0 by decide,show (0:Int)≤1099511627776 by decide⟩
 obtain ⟨fy,y0,y1⟩:=lnAt_of hf1 noLn_fits b a c
 have HF1:=Lib.hid hf1
 have HR':Hid (RefL w3 base g ps (setL ls (x.owe 0)) vp vl'):=HR
 have cy:=Lib.hid (rline_any HR'.out b a c)
 rw [lineV_at] at cy
 clear hf1 HF
 generalize (lineL (setL ls (x.owe 0)) b a c).isSome=sy at *
 generalize lnAt (setL ls (x.owe 0)) b a c=y at *
 generalize setL ls (x.owe 0)=ls1 at *
 have q3:0<n - x.db:=by omega
 go_wp2_with fail
 refine cy.out.mono ?_
 rintro e w4 ⟨rfl,b4⟩
 have B4:=Lib.hid (b4.alloc b4.size (.cells #[.int .u8 y.cr,.int .u8 y.de,.int .u8 y.cu,.int .i64 y.li,.int .i64 (y.db + (n - x.db))] 72))
 have cs:=Lib.hid (rset_any (HR'.out.below B4.out) (y.owe (y.db + (n - x.db))) ⟨fy.cr,fy.de,fy.cu,fy.li,⟨by show _≤y.db + (n - x.db); omega,by show y.db + (n - x.db)≤_; omega⟩⟩ (fun y hy=>(HF1.out y hy).1) (by omega))
 unfold Ln.val Ln.owe at cs
 clear b4
 go_wp2_with fail
 refine cs.out.mono ?_
 rintro e w5 ⟨rfl,vl2,hr,hk⟩
 have HR2:=Lib.hid hr
 have HK2:=Lib.hid (HK.out.trans (Keep.trans (Keep.of_below B4.out) hk))
 clear hr hk
 go_wp2_with fail
 refine bodyPost_ret (v:=.int .i64 0) (by simp [results,go_sem]) rfl ?_
 exact ⟨rfl,vl2,HR2.out,HK2.out⟩
theorem rpush_any {w:World} {base g:Nat} {ps:List Int} {ls:List Ln} {vp vl:Value} (h:RefL w base g ps ls vp vl) (hgood:∀ y ∈ ls,y.Good) (hlen:ls.length≤64) (a b c n:Int) :
  Calls Tryz.prog 33 #[.pointer (some ⟨g,0,none⟩),.int .u8 a,.int .u8 b,.int .u8 c,.int .i64 n] w fun e w'=>e=.returned (.int .i64 (pushE ps ls a b c n))∧∃ vl',RefL w' base g ps (pushL ps ls a b c n) vp vl'∧Keep (·=g) w w':=by
 by_cases hn:n<1∨roomL ps ls a b c<n
 ·have e:pushE ps ls a b c n≠0:=by unfold pushE; (repeat' split) <;> omega
  rw [show pushL ps ls a b c n=ls by unfold pushL; rw [if_neg e]]
  exact (rpush_no h hgood a b c n hn).mono fun e w' ⟨he,hb⟩=>⟨he,vl,h.below hb,Keep.of_below hb⟩
 have e:pushE ps ls a b c n=0:=by unfold pushE; rw [if_neg (by omega),if_neg (by omega)]
 rw [show pushL ps ls a b c n=pushTo ls a b c n by unfold pushL; rw [if_pos e],e]
 have hrb:=roomL_bd (ps:=ps) hgood a b c
 have bx:=lnAt_bd hgood a b c
 have by':=lnAt_bd hgood b a c
 have cr:=Lib.hid (rroom_any h hgood a b c)
 have cx:=Lib.hid (fun (w':World) (k:Below w.heap.size w w')=>rline_any (h.below k) a b c)
 have cy:=Lib.hid (fun (w':World) (k:Below w.heap.size w w')=>rline_any (h.below k) b a c)
 simp only [lineV_at] at cx cy
 have hfit:∀ y ∈ ls,y.Fits∧0≤y.db∧y.db≤1099511627776:=fun y hy=>⟨(hgood y hy).fits,(hgood y hy).db.1,by have h1:=(hgood y hy).db; have h2:=(hgood y hy).li; omega⟩
 cases hl:lineL ls a b c with
 | none =>
  rw [hl] at cx
  have e1:push1 ls a b c n=ls:=by unfold push1; rw [hl]; rfl
  have e2:push2 ls a b c n=n:=by unfold push2; rw [hl]; rfl
  have e3:pushTo ls a b c n=setL ls ((lnAt ls b a c).owe ((lnAt ls b a c).db + n)):=by unfold pushTo; rw [e1,e2,if_pos (by omega)]
  rw [e3]
  exact rpush_none h (fun y hy=>(hgood y hy).fits) (by omega) a b c n _ _ _ _ (by omega) (by omega) hrb.2 (by omega) (by omega) (lnAt_fits hgood b a c) cr cx cy
 | some y =>
  rw [hl] at cx
  have e1:push1 ls a b c n=setL ls ((lnAt ls a b c).owe ((lnAt ls a b c).db - min n (lnAt ls a b c).db)):=by unfold push1; rw [hl]; rfl
  have e2:push2 ls a b c n=n - min n (lnAt ls a b c).db:=by unfold push2; rw [hl]; rfl
  by_cases hle:n≤(lnAt ls a b c).db
  ·have e3:pushTo ls a b c n=setL ls ((lnAt ls a b c).owe ((lnAt ls a b c).db - n)):=by unfold pushTo; rw [e1,e2,if_neg (by omega),show min n (lnAt ls a b c).db=n by omega]
   rw [e3]
   exact rpush_all h hfit (by omega) a b c n _ _ (by omega) (by omega) hrb.2 (by omega) (by omega) (lnAt_fits hgood a b c) hle cr cx
  ·have e4:min n (lnAt ls a b c).db=(lnAt ls a b c).db:=by omega
   have e5:push1 ls a b c n=setL ls ((lnAt ls a b c).owe 0):=by rw [e1,e4,show (lnAt ls a b c).db - (lnAt ls a b c).db=0 by omega]
   have e3:pushTo ls a b c n=setL (setL ls ((lnAt ls a b c).owe 0)) ((lnAt (setL ls ((lnAt ls a b c).owe 0)) b a c).owe ((lnAt (setL ls ((lnAt ls a b c).owe 0)) b a c).db + (n - (lnAt ls a b c).db))):=by unfold pushTo; rw [e5,e2,e4,if_pos (by omega)]
   rw [e3]
   exact rpush_part h hfit (by omega) a b c n _ _ (by omega) (by omega) hrb.2 (by omega) (by omega) (lnAt_fits hgood a b c) (by omega) cr cx
end Go.Proofs.YtlbjjkbppbmihaaGreat
