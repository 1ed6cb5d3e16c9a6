/-
  Pieces of one proof, without what is not wanted: Ref03.
-/
import Derived.Test.YtlbjjkbppbmihaaGreatP01
import Derived.Test.YtlbjjkbppbmihaaGreatP02
set_option linter.unusedSimpArgs false
set_option linter.unusedVariables false
namespace Go.Proofs.YtlbjjkbppbmihaaGreat
open Go.RowKit
structure RefL (w:World) (base g:Nat) (ps:List Int) (ls:List Ln) (vp vl:Value):Prop where
 blk:Blk w g #[vp,vl] 69
 ge:base≤g
 p:w.ownsRow base 30 1 vp ps.length (ps.map (.int .u8))
 l:w.ownsRow base 72 5 vl ls.length (lnCells ls)
set_option maxHeartbeats 1000000 in
theorem rhas_any {w:World} {base g:Nat} {ps:List Int} {ls:List Ln} {vp vl:Value} (h:RefL w base g ps ls vp vl) (p:Int) :
  Calls Tryz.prog 64 #[.pointer (some ⟨g,0,none⟩),.int .u8 p] w fun e w'=>e=.returned (.bool (decide (p ∈ ps)))∧w'=w:=by
 have d0:=h.blk.cell 0
 simp at d0
 obtain ⟨ao,cap,rfl,hc1,hc2,hc3,hc4⟩:=owns_open h.p
 have HC:=Lib.hid hc4
 have hlt:=h.blk.lt
 unfold maxLen at hc2
 clear hc3 hc4 h
 go_enter Tryz.func64,Tryz.ntmps64
 go_wp2
 go_loop [5] (fun i=>∃ k:Nat,k≤ps.length∧i=.int .i64 k∧Hid (p ∉ ps.take k)) (fun i=>ps.length - (intOf i).toNat)
 case atStart=>exact ⟨0,Nat.zero_le _,rfl,Lib.hid (by simp)⟩
 case round =>
  obtain ⟨k,hk,rfl,hn⟩:=hrel
  by_cases hkl:k<ps.length
  ·obtain ⟨b,rfl,hb1,hb2,hcell,_⟩:=HC.out (by omega)
   have hck:w.cell? ⟨b,k,none⟩=some (.int .u8 ps[k]):=by rw [hcell k (by omega)]; simp [hkl]
   clear hcell
   by_cases he:ps[k]=p
   ·have hq:(ps[k]==p)=true:=by simp [he]
    have hin:decide (p ∈ ps)=true:=by rw [decide_eq_true_eq,← he]; exact List.getElem_mem hkl
    have HI:=Lib.hid hin
    clear he hin
    go_wp2
    go_ret
    exact ⟨by rw [HI.out]; rfl,rfl⟩
   ·have hq:(ps[k]==p)=false:=by simp [he]
    have HN:Hid (p ∉ ps.take (k + 1)):=Lib.hid (by
     rw [List.take_succ_eq_append_getElem hkl]
     simp only [List.mem_append,List.mem_singleton,not_or]
     exact ⟨hn.out,fun e=>he e.symm⟩)
    clear he
    go_wp2
    go_round
    case rel=>exact ⟨k + 1,by omega,by go_num,HN⟩
    case measure=>simp [intOf]; omega
  ·have hin:decide (p ∈ ps)=false:=by
    rw [decide_eq_false_iff_not]
    have:=hn.out
    rwa [List.take_of_length_le (by omega)] at this
   have HI:=Lib.hid hin
   clear hin
   go_wp2
   go_ret
   exact ⟨by rw [HI.out]; rfl,rfl⟩
set_option maxHeartbeats 1000000 in
theorem rrank_any (x:Ln) (w:World) (h:x.Fits) :
  Calls Tryz.prog 84 #[x.val] w fun e w'=>e=.returned (.int .i64 x.rank)∧Below w.heap.size w w':=by
 obtain ⟨⟨a1,a2⟩,⟨b1,b2⟩,⟨c1,c2⟩,_,_⟩:=h
 have B0:=Lib.hid ((Below.refl w.heap.size w).alloc (Nat.le_refl _) (.cells #[.int .u8 x.cr,.int .u8 x.de,.int .u8 x.cu,.int .i64 x.li,.int .i64 x.db] 72))
 unfold Ln.val Ln.rank
 go_enter Tryz.func84,Tryz.ntmps84
 go_wp2
 go_ret
 exact ⟨rfl,B0.out⟩
end Go.Proofs.YtlbjjkbppbmihaaGreat
namespace Go.Proofs.YtlbjjkbppbmihaaGreat
open Go.RowKit
theorem ln_cells {w:World} {b:Nat} {ls:List Ln} (h:∀ j,j<ls.length * 5→w.cell? ⟨b,j,none⟩=(lnCells ls)[j]?) {k:Nat} (hk:k<ls.length) :
  w.cell? ⟨b,k * 5,none⟩=some (.int .u8 ls[k].cr)∧w.cell? ⟨b,k * 5 + 1,none⟩=some (.int .u8 ls[k].de)∧w.cell? ⟨b,k * 5 + 2,none⟩=some (.int .u8 ls[k].cu)∧w.cell? ⟨b,k * 5 + 3,none⟩=some (.int .i64 ls[k].li)∧w.cell? ⟨b,k * 5 + 4,none⟩=some (.int .i64 ls[k].db):=by
 refine ⟨?_,?_,?_,?_,?_⟩
 ·have:=lnCells_get ls k 0 (by omega) hk
  rw [Nat.add_zero] at this
  rw [h _ (by omega),this]; rfl
 ·rw [h _ (by omega),lnCells_get ls k 1 (by omega) hk]; rfl
 ·rw [h _ (by omega),lnCells_get ls k 2 (by omega) hk]; rfl
 ·rw [h _ (by omega),lnCells_get ls k 3 (by omega) hk]; rfl
 ·rw [h _ (by omega),lnCells_get ls k 4 (by omega) hk]; rfl
theorem take_next {α:Type} {q:α→Prop} {l:List α} {k:Nat} (h:k<l.length) (hn:∀ x ∈ l.take k,q x) (hx:q l[k]):∀ x ∈ l.take (k + 1),q x:=by
 rw [List.take_succ_eq_append_getElem h]
 intro x hx'
 rcases List.mem_append.1 hx' with h1 | h1
 ·exact hn x h1
 ·rw [List.mem_singleton] at h1; rw [h1]; exact hx
set_option maxHeartbeats 2000000 in
theorem rat_any {w:World} {base g:Nat} {ps:List Int} {ls:List Ln} {vp vl:Value} (h:RefL w base g ps ls vp vl) (p q c:Int) :
  Calls Tryz.prog 70 #[.pointer (some ⟨g,0,none⟩),.int .u8 p,.int .u8 q,.int .u8 c] w fun e w'=>e=.returned (.int .i64 (atL ls p q c))∧w'=w:=by
 have d0:=h.blk.cell 1
 simp at d0
 obtain ⟨ao,cap,rfl,hc1,hc2,hc3,hc4⟩:=owns_open h.l
 have HC:=Lib.hid hc4
 have hlt:=h.blk.lt
 unfold maxLen at hc2
 clear hc3 hc4 h
 go_enter Tryz.func70,Tryz.ntmps70
 go_wp2
 go_loop [9] (fun i=>∃ k:Nat,k≤ls.length∧i=.int .i64 k∧Hid (∀ x ∈ ls.take k,x.is p q c=false)) (fun i=>ls.length - (intOf i).toNat)
 case atStart=>exact ⟨0,Nat.zero_le _,rfl,Lib.hid (by simp)⟩
 case round =>
  obtain ⟨k,hk,rfl,hn⟩:=hrel
  by_cases hkl:k<ls.length
  ·obtain ⟨b,rfl,hb1,hb2,hcell,_⟩:=HC.out (by omega)
   obtain ⟨e0,e1,e2,_,_⟩:=ln_cells hcell hkl
   have hs:((ls[k].cr==p)=true∧(ls[k].de==q)=true∧(ls[k].cu==c)=true∧ls[k].is p q c=true)∨((ls[k].cr==p)=false∧ls[k].is p q c=false)∨((ls[k].cr==p)=true∧(ls[k].de==q)=false∧ls[k].is p q c=false)∨((ls[k].cr==p)=true∧(ls[k].de==q)=true∧(ls[k].cu==c)=false∧ls[k].is p q c=false):=by
    unfold Ln.is
    cases ls[k].cr==p <;> cases ls[k].de==q <;> cases ls[k].cu==c <;> simp
   clear hcell
   rcases hs with ⟨s1,s2,s3,s4⟩ | ⟨s1,s4⟩ | ⟨s1,s2,s4⟩ | ⟨s1,s2,s3,s4⟩
   ·have HA:=Lib.hid (at_found hkl hn.out s4).1
    clear s4
    go_wp2
    go_ret
    exact ⟨by rw [HA.out]; rfl,rfl⟩
   all_goals
    have HN:=Lib.hid (take_next hkl hn.out s4)
    clear s4
    go_wp2
    go_round
    case rel=>exact ⟨k + 1,by omega,by go_num,HN⟩
    case measure=>simp [intOf]; omega
  ·have HA:=Lib.hid (at_none (ls:=ls) (a:=p) (b:=q) (c:=c) (by have:=hn.out; rwa [List.take_of_length_le (by omega)] at this)).1
   go_wp2
   go_ret
   exact ⟨by rw [HA.out]; rfl,rfl⟩
def lineV (o:Option Ln):Value:=match o with | some x=>.tuple #[x.val,.bool true] | none=>.tuple #[noLn.val,.bool false]
set_option maxHeartbeats 2000000 in
theorem rline_any {w:World} {base g:Nat} {ps:List Int} {ls:List Ln} {vp vl:Value} (h:RefL w base g ps ls vp vl) (p q c:Int) :
  Calls Tryz.prog 40 #[.pointer (some ⟨g,0,none⟩),.int .u8 p,.int .u8 q,.int .u8 c] w fun e w'=>e=.returned (lineV (lineL ls p q c))∧Below w.heap.size w w':=by
 have ob:=Lib.hid (Blk.new w #[.int .u8 0,.int .u8 0,.int .u8 0,.int .i64 0,.int .i64 0] 72)
 have bb:=Lib.hid ((Below.refl w.heap.size w).alloc (Nat.le_refl _) (.cells #[.int .u8 0,.int .u8 0,.int .u8 0,.int .i64 0,.int .i64 0] 72))
 have kk:Keep (fun _=>False) w (w.alloc (.cells #[.int .u8 0,.int .u8 0,.int .u8 0,.int .i64 0,.int .i64 0] 72)):=Keep.of_below bb.out
 have h2:RefL (w.alloc (.cells #[.int .u8 0,.int .u8 0,.int .u8 0,.int .i64 0,.int .i64 0] 72)) base g ps ls vp vl:=⟨h.blk.keep kk id,h.ge,owns_keep h.p kk (fun _ _=>id),owns_keep h.l kk (fun _ _=>id)⟩
 have ca:=Lib.hid (rat_any h2 p q c)
 have d0:=h2.blk.cell 1
 simp at d0
 obtain ⟨ao,cap,rfl,hc1,hc2,hc3,hc4⟩:=owns_open h2.l
 have HC:=Lib.hid hc4
 have hlt:=h2.blk.lt
 unfold maxLen at hc2
 clear hc3 hc4 h kk h2
 rcases at_cases ls p q c with ⟨k,hk,ha,hl,_⟩ | ⟨ha,hl,_⟩
 ·rw [ha] at ca
  rw [hl]
  obtain ⟨b,rfl,hb1,hb2,hcell,_⟩:=HC.out (by omega)
  obtain ⟨e0,e1,e2,e3,e4⟩:=ln_cells hcell hk
  clear hcell ha hl
  go_enter Tryz.func40,Tryz.ntmps40
  go_wp2_with fail
  refine ca.out.mono ?_
  rintro e w1 ⟨rfl,rfl⟩
  go_wp2
  refine bodyPost_ret (v:=.tuple #[ls[k].val,.bool true]) (results_cell_and rfl _ _ w.heap.size 72 #[.int .u8 ls[k].cr,.int .u8 ls[k].de,.int .u8 ls[k].cu,.int .i64 ls[k].li,.int .i64 ls[k].db] _ _ rfl (Blk.new w #[.int .u8 ls[k].cr,.int .u8 ls[k].de,.int .u8 ls[k].cu,.int .i64 ls[k].li,.int .i64 ls[k].db] 72).out Tryz.underlying72 rfl (by kernel_rfl) rfl) rfl ⟨rfl,(Below.refl _ _).alloc (Nat.le_refl _) _⟩
 ·rw [ha] at ca
  rw [hl]
  clear ha hl
  go_enter Tryz.func40,Tryz.ntmps40
  go_wp2_with fail
  refine ca.out.mono ?_
  rintro e w1 ⟨rfl,rfl⟩
  go_wp2
  refine bodyPost_ret (v:=.tuple #[noLn.val,.bool false]) (results_cell_and rfl _ _ w.heap.size 72 #[.int .u8 0,.int .u8 0,.int .u8 0,.int .i64 0,.int .i64 0] _ _ rfl (Blk.new w #[.int .u8 0,.int .u8 0,.int .u8 0,.int .i64 0,.int .i64 0] 72).out Tryz.underlying72 rfl (by kernel_rfl) rfl) rfl ⟨rfl,(Below.refl _ _).alloc (Nat.le_refl _) _⟩
end Go.Proofs.YtlbjjkbppbmihaaGreat
namespace Go.Proofs.YtlbjjkbppbmihaaGreat
open Go.RowKit
theorem info_lineAll:(Tryz.prog.info? 72).map (fun i=>(i.zero,i.size,i.bytes))=some (some noLn.val,5,24):=by kernel_rfl
theorem wpList_append_line (w:World) {ops:Array Oper} {rest:List Oper} {o:Oper} {a:Act} {Q:Exit→Act→World→Prop} (hgd:o.guard=none) (s x:Operand)
  (ho:o.op=.call { callee:=.builtin .append,args:=#[s,x],argTypes:=#[54,54] }) (base:Nat) (v:Value) (ls:List Ln) (hs:a.eval s=v)
  (hown:w.ownsRow base 72 5 v ls.length (lnCells ls)) (g c:Nat) (y:Ln) (hx:a.eval x=.slice (some ⟨g,0,none⟩) 1 c) (hy:Blk w g #[.int .u8 y.cr,.int .u8 y.de,.int .u8 y.cu,.int .i64 y.li,.int .i64 y.db] 72) (hlen:ls.length≤100000) (hbase:base≤w.heap.size)
  (h:∀ v' w',w'.ownsRow base 72 5 v' (ls++[y]).length (lnCells (ls++[y]))→w.grownBy w' v.ownBlock→wpList Tryz.prog ops Q rest (a.put o.dst v') w'):wpList Tryz.prog ops Q (o::rest) a w:=by
 obtain ⟨i0,hi,hz0,hz1,hz2⟩:=info_parts info_lineAll
 refine wpList_append_own w hgd s x 54 ho base 72 i0 noLn.val 5 24 Tryz.underlying54 hi hz0 hz1 hz2 rfl (by decide) v ls.length (lnCells ls) hs hown ⟨g,0,none⟩ 1 c y.vals hx rfl ?_ ?_ (by unfold maxLen; omega) (by omega) hbase ?_
 ·intro j u hj
  have:=hy.cell j
  rw [Go.WideShapes.add_plain]
  match j,hj with
  | 0,hj=>simp [Ln.vals] at hj; subst hj; simpa using this
  | 1,hj=>simp [Ln.vals] at hj; subst hj; simpa using this
  | 2,hj=>simp [Ln.vals] at hj; subst hj; simpa using this
  | 3,hj=>simp [Ln.vals] at hj; subst hj; simpa using this
  | 4,hj=>simp [Ln.vals] at hj; subst hj; simpa using this
  | j + 5,hj=>simp [Ln.vals] at hj
 ·intro u hu
  simp [Ln.vals] at hu
  rcases hu with rfl | rfl | rfl | rfl | rfl <;> rfl
 ·intro v' w' h1 h2 _
  refine h v' w' ?_ h2
  rw [lnCells_append,lnCells_one,List.length_append]
  exact h1
theorem set_done {w w1:World} {base g:Nat} {ps:List Int} {ls ls':List Ln} {vp vl v:Value} (h:RefL w base g ps ls vp vl) (hg:g<w.heap.size) (hb:Below w.heap.size w w1) (ho:w1.ownsRow (w.heap.size + 1) 72 5 v ls'.length (lnCells ls')) :
  ∃ vl',RefL (w1.setCell ⟨g,1,none⟩ v) base g ps ls' vp vl'∧Keep (·=g) w (w1.setCell ⟨g,1,none⟩ v):=by
 have k0:Keep (·=g) w1 (w1.setCell ⟨g,1,none⟩ v):=Keep.setCell (S:=(·=g)) (Keep.refl _ _) (p:=⟨g,1,none⟩) (.inl rfl) v
 have hblk:=h.blk.below hb hg
 refine ⟨v,⟨?_,h.ge,?_,?_⟩,(Keep.setCell (S:=(·=g)) (Keep.of_below hb) (p:=⟨g,1,none⟩) (.inl rfl) v)⟩
 ·have:=hblk.set 1 v
  simpa using this
 ·have hp:=owns_below h.p hb
  exact owns_keep hp k0 (owns_ne hp hblk (by decide))
 ·exact owns_keep (owns_base ho (by have:=h.ge; omega)) k0 (owns_ne ho hblk (by decide))
def SetAt (ls:List Ln) (x:Ln) (w:World) (v put i:Value) (wr:World):Prop :=
 ∃ k:Nat,k≤ls.length∧i=.int .i64 k∧put=.bool (setTo (ls.take k) x).2∧wr.ownsRow (w.heap.size + 1) 72 5 v (setTo (ls.take k) x).1.length (lnCells (setTo (ls.take k) x).1)∧Below w.heap.size w wr∧Blk wr w.heap.size #[.int .u8 x.cr,.int .u8 x.de,.int .u8 x.cu,.int .i64 x.li,.int .i64 x.db] 72
set_option maxHeartbeats 8000000 in
set_option maxRecDepth 100000 in
theorem rset_any {w:World} {base g:Nat} {ps:List Int} {ls:List Ln} {vp vl:Value} (h:RefL w base g ps ls vp vl) (x:Ln) (hx:x.Fits) (hfit:∀ y ∈ ls,y.Fits) (hlen:ls.length≤1000) :
  Calls Tryz.prog 65 #[.pointer (some ⟨g,0,none⟩),x.val] w fun e w'=>e=.returned (.tuple #[])∧∃ vl',RefL w' base g ps (setL ls x) vp vl'∧Keep (·=g) w w':=by
 have cx:=Lib.hid (fun w=>rrank_any x w hx)
 have HF:=Lib.hid hfit
 have KX:=Lib.hid (Blk.new w #[.int .u8 x.cr,.int .u8 x.de,.int .u8 x.cu,.int .i64 x.li,.int .i64 x.db] 72)
 have BI:=Lib.hid ((Below.refl w.heap.size w).alloc (Nat.le_refl _) (.cells #[.int .u8 x.cr,.int .u8 x.de,.int .u8 x.cu,.int .i64 x.li,.int .i64 x.db] 72))
 have H:=Lib.hid h
 obtain ⟨ao,cap,rfl,hc1,hc2,hc3,hc4⟩:=owns_open h.l
 have HC:=Lib.hid hc4
 have hg:=h.blk.lt
 unfold maxLen at hc2
 clear hc3 hc4 h hfit hx
 have hz:∀ b:Bool,(x.li==0)=b→Hid ((x.li==0)=b):=fun b h=>h
 unfold Ln.val at cx ⊢
 go_enter Tryz.func65,Tryz.ntmps65
 go_wp2_with fail
 go_loopw [4,5,6] (SetAt ls x w) (fun _ _ i _=>ls.length - (intOf i).toNat)
 case atStart=>exact ⟨0,Nat.zero_le _,rfl,rfl,World.ownsRow_nil _ _ _ _,BI.out,KX.out⟩
 case round =>
  obtain ⟨k,hk,rfl,rfl,hown,hb,hkx⟩:=hrel
  have hlo:=setTo_len (ls.take k) x
  have hlk:(ls.take k).length≤k:=List.length_take_le _ _
  have dg:=(H.out.blk.below hb hg).cell 1
  simp at dg
  have hgr:=(H.out.blk.below hb hg).lt
  by_cases hkl:k<ls.length
  ·have HS:=Lib.hid (setTo_take ls x k hkl)
   obtain ⟨b,rfl,hb1,hb2,hcell,_⟩:=HC.out (by omega)
   obtain ⟨e0,e1,e2,e3,e4⟩:=ln_cells (w:=wr) (fun j hj=>by rw [hb.cell (p:=⟨b,j,none⟩) hb2]; exact hcell j hj) hkl
   have hyf:=HF.out ls[k] (List.getElem_mem hkl)
   have hbr:b<wr.heap.size:=Nat.lt_of_lt_of_le hb2 hb.size
   clear hcell
   generalize ls[k]=y at *
   generalize setTo (ls.take k) x=s at *
   obtain ⟨out,put⟩:=s
   dsimp only at *
   have cy:=Lib.hid (fun w=>rrank_any y w hyf)
   unfold Ln.val at cy
   have KY0:=Lib.hid (Blk.new wr #[.int .u8 y.cr,.int .u8 y.de,.int .u8 y.cu,.int .i64 y.li,.int .i64 y.db] 72)
   have KX0:=Lib.hid (hkx.alloc (.cells #[.int .u8 y.cr,.int .u8 y.de,.int .u8 y.cu,.int .i64 y.li,.int .i64 y.db] 72))
   have hrow:∀ k,Value.ownBlock _=some k→k<wr.heap.size:=fun k hk=>(owns_type hown hk).2.1
   have B0:=Lib.hid (hb.alloc hb.size (.cells #[.int .u8 y.cr,.int .u8 y.de,.int .u8 y.cu,.int .i64 y.li,.int .i64 y.db] 72))
   have O0:=Lib.hid (hown.alloc (.cells #[.int .u8 y.cr,.int .u8 y.de,.int .u8 y.cu,.int .i64 y.li,.int .i64 y.db] 72))
   have hgy:w.heap.size + 1≤wr.heap.size:=hkx.lt
   clear hown hb hkx hyf
   have hs:(y.rank=x.rank)∨(y.rank≠x.rank∧put=true)∨(y.rank≠x.rank∧put=false∧x.rank<y.rank)∨(y.rank≠x.rank∧put=false∧¬ x.rank<y.rank):=by
    cases put <;> simp <;> omega
   rcases hs with h1 | ⟨h1,rfl⟩ | ⟨h1,rfl,h2⟩ | ⟨h1,rfl,h2⟩
   ·have q1:(y.rank==x.rank)=true:=by simp [h1]
    have NX:Hid (setTo (ls.take (k + 1)) x=(out,put)):=Lib.hid (by rw [HS.out]; unfold setStep; rw [if_pos h1])
    clear HS h1
    have z0:w.heap.size + 1≤(wr.alloc (.cells #[.int .u8 y.cr,.int .u8 y.de,.int .u8 y.cu,.int .i64 y.li,.int .i64 y.db] 72)).heap.size:=by simp; omega
    go_wp2_with fail
    generalize wr.alloc (.cells #[.int .u8 y.cr,.int .u8 y.de,.int .u8 y.cu,.int .i64 y.li,.int .i64 y.db] 72)=Wy at *
    generalize wr.heap.size=gy at *
    refine region_still (by kernel_rfl) [.agg #[.int .u8 y.cr,.int .u8 y.de,.int .u8 y.cu,.int .i64 y.li,.int .i64 y.db],.int .i64 y.rank,.agg #[.int .u8 x.cr,.int .u8 x.de,.int .u8 x.cu,.int .i64 x.li,.int .i64 x.db],.int .i64 x.rank,.bool true]
     (fun w'=>Below Wy.heap.size Wy w') (by kernel_rfl) (Below.refl _ _).drew ?_
    intro af haf
    simp only [puts,Act.put,List.getD_cons_zero,List.getD_cons_succ,List.setIfInBounds_toArray,List.set_cons_succ,List.set_cons_zero] at haf
    subst haf
    refine ⟨?_,?_⟩
    ·simp only [EachTo]
     refine ⟨?_,?_,?_,?_,?_,trivial⟩
     ·intro w' hS
      refine OpTo.plain ?_ ?_
      exact rfl
      have d0_0:=(KY0.out.below hS KY0.out.lt).cell 0
      have d0_1:=(KY0.out.below hS KY0.out.lt).cell 1
      have d0_2:=(KY0.out.below hS KY0.out.lt).cell 2
      have d0_3:=(KY0.out.below hS KY0.out.lt).cell 3
      have d0_4:=(KY0.out.below hS KY0.out.lt).cell 4
      simp at d0_0 d0_1 d0_2 d0_3 d0_4
      have HS:=Lib.hid hS
      clear hS
      go_wp2_with fail
      all_goals first | exact HS.out | exact ⟨rfl,HS.out⟩ | rfl
     ·intro w' hS
      refine OpTo.plain ?_ ?_
      exact rfl
      have HS:=Lib.hid hS
      clear hS
      go_wp2_with fail
      refine (cy.out w').mono ?_
      rintro e w'' ⟨rfl,hb2⟩
      exact ⟨rfl,andB HS.out hb2⟩
     ·intro w' hS
      refine OpTo.plain ?_ ?_
      exact rfl
      have d0_0:=(KX0.out.below hS KX0.out.lt).cell 0
      have d0_1:=(KX0.out.below hS KX0.out.lt).cell 1
      have d0_2:=(KX0.out.below hS KX0.out.lt).cell 2
      have d0_3:=(KX0.out.below hS KX0.out.lt).cell 3
      have d0_4:=(KX0.out.below hS KX0.out.lt).cell 4
      simp at d0_0 d0_1 d0_2 d0_3 d0_4
      have HS:=Lib.hid hS
      clear hS
      go_wp2_with fail
      all_goals first | exact HS.out | exact ⟨rfl,HS.out⟩ | rfl
     ·intro w' hS
      refine OpTo.plain ?_ ?_
      exact rfl
      have HS:=Lib.hid hS
      clear hS
      go_wp2_with fail
      refine (cx.out w').mono ?_
      rintro e w'' ⟨rfl,hb2⟩
      exact ⟨rfl,andB HS.out hb2⟩
     ·intro w' hS
      refine OpTo.plain ?_ ?_
      exact rfl
      have HS:=Lib.hid hS
      clear hS
      go_wp2_with fail
      all_goals first | exact HS.out | exact ⟨rfl,HS.out⟩ | rfl
    intro w1 hS
    have z1:w.heap.size + 1≤w1.heap.size:=Nat.le_trans z0 hS.size
    have KX1:=Lib.hid (KX0.out.below hS KX0.out.lt); have KY1:=Lib.hid (KY0.out.below hS KY0.out.lt)
    have B1:=Lib.hid (B0.out.trans (hS.mono B0.out.size)); have O1:=Lib.hid (owns_below O0.out hS)
    clear hS
    go_wp2_with fail
    go_roundw
    case rel=>exact ⟨k + 1,by omega,by go_num,by rw [NX.out],by rw [NX.out]; exact O1.out,B1.out,KX1.out⟩
    case measure=>simp [intOf]; omega
   ·have q1:(y.rank==x.rank)=false:=by simp [h1]
    have NX:Hid (setTo (ls.take (k + 1)) x=(out++[y],true)):=Lib.hid (by rw [HS.out]; unfold setStep; rw [if_neg h1,if_neg (by simp)])
    clear HS h1
    have z0:w.heap.size + 1≤(wr.alloc (.cells #[.int .u8 y.cr,.int .u8 y.de,.int .u8 y.cu,.int .i64 y.li,.int .i64 y.db] 72)).heap.size:=by simp; omega
    go_wp2_with fail
    generalize wr.alloc (.cells #[.int .u8 y.cr,.int .u8 y.de,.int .u8 y.cu,.int .i64 y.li,.int .i64 y.db] 72)=Wy at *
    generalize wr.heap.size=gy at *
    refine region_still (by kernel_rfl) [.agg #[.int .u8 y.cr,.int .u8 y.de,.int .u8 y.cu,.int .i64 y.li,.int .i64 y.db],.int .i64 y.rank,.agg #[.int .u8 x.cr,.int .u8 x.de,.int .u8 x.cu,.int .i64 x.li,.int .i64 x.db],.int .i64 x.rank,.bool false]
     (fun w'=>Below Wy.heap.size Wy w') (by kernel_rfl) (Below.refl _ _).drew ?_
    intro af haf
    simp only [puts,Act.put,List.getD_cons_zero,List.getD_cons_succ,List.setIfInBounds_toArray,List.set_cons_succ,List.set_cons_zero] at haf
    subst haf
    refine ⟨?_,?_⟩
    ·simp only [EachTo]
     refine ⟨?_,?_,?_,?_,?_,trivial⟩
     ·intro w' hS
      refine OpTo.plain ?_ ?_
      exact rfl
      have d0_0:=(KY0.out.below hS KY0.out.lt).cell 0
      have d0_1:=(KY0.out.below hS KY0.out.lt).cell 1
      have d0_2:=(KY0.out.below hS KY0.out.lt).cell 2
      have d0_3:=(KY0.out.below hS KY0.out.lt).cell 3
      have d0_4:=(KY0.out.below hS KY0.out.lt).cell 4
      simp at d0_0 d0_1 d0_2 d0_3 d0_4
      have HS:=Lib.hid hS
      clear hS
      go_wp2_with fail
      all_goals first | exact HS.out | exact ⟨rfl,HS.out⟩ | rfl
     ·intro w' hS
      refine OpTo.plain ?_ ?_
      exact rfl
      have HS:=Lib.hid hS
      clear hS
      go_wp2_with fail
      refine (cy.out w').mono ?_
      rintro e w'' ⟨rfl,hb2⟩
      exact ⟨rfl,andB HS.out hb2⟩
     ·intro w' hS
      refine OpTo.plain ?_ ?_
      exact rfl
      have d0_0:=(KX0.out.below hS KX0.out.lt).cell 0
      have d0_1:=(KX0.out.below hS KX0.out.lt).cell 1
      have d0_2:=(KX0.out.below hS KX0.out.lt).cell 2
      have d0_3:=(KX0.out.below hS KX0.out.lt).cell 3
      have d0_4:=(KX0.out.below hS KX0.out.lt).cell 4
      simp at d0_0 d0_1 d0_2 d0_3 d0_4
      have HS:=Lib.hid hS
      clear hS
      go_wp2_with fail
      all_goals first | exact HS.out | exact ⟨rfl,HS.out⟩ | rfl
     ·intro w' hS
      refine OpTo.plain ?_ ?_
      exact rfl
      have HS:=Lib.hid hS
      clear hS
      go_wp2_with fail
      refine (cx.out w').mono ?_
      rintro e w'' ⟨rfl,hb2⟩
      exact ⟨rfl,andB HS.out hb2⟩
     ·intro w' hS
      refine OpTo.plain ?_ ?_
      exact rfl
      have HS:=Lib.hid hS
      clear hS
      go_wp2_with fail
      all_goals first | exact HS.out | exact ⟨rfl,HS.out⟩ | rfl
    intro w1 hS
    have z1:w.heap.size + 1≤w1.heap.size:=Nat.le_trans z0 hS.size
    have KX1:=Lib.hid (KX0.out.below hS KX0.out.lt); have KY1:=Lib.hid (KY0.out.below hS KY0.out.lt)
    have B1:=Lib.hid (B0.out.trans (hS.mono B0.out.size)); have O1:=Lib.hid (owns_below O0.out hS)
    clear hS
    go_wp2_with fail
    refine region_still (by kernel_rfl) [.bool true,.bool false,.bool false,undef,undef,undef,undef,undef,.bool false]
     (fun w'=>Below w1.heap.size w1 w') (by kernel_rfl) (Below.refl _ _).drew ?_
    intro af haf
    simp only [puts,Act.put,List.getD_cons_zero,List.getD_cons_succ,List.setIfInBounds_toArray,List.set_cons_succ,List.set_cons_zero] at haf
    subst haf
    refine ⟨?_,?_⟩
    ·simp only [EachTo]
     refine ⟨?_,?_,?_,?_,?_,?_,?_,?_,?_,trivial⟩
     ·intro w' hS
      refine OpTo.plain ?_ ?_
      exact rfl
      have HS:=Lib.hid hS
      clear hS
      go_wp2_with fail
      all_goals first | exact HS.out | exact ⟨rfl,HS.out⟩ | rfl
     ·intro w' hS
      refine OpTo.plain ?_ ?_
      exact rfl
      have HS:=Lib.hid hS
      clear hS
      go_wp2_with fail
      all_goals first | exact HS.out | exact ⟨rfl,HS.out⟩ | rfl
     ·intro w' hS
      refine OpTo.plain ?_ ?_
      exact rfl
      have HS:=Lib.hid hS
      clear hS
      go_wp2_with fail
      all_goals first | exact HS.out | exact ⟨rfl,HS.out⟩ | rfl
     ·intro w' hS
      refine OpTo.passed (by kernel_rfl) rfl hS
     ·intro w' hS
      refine OpTo.passed (by kernel_rfl) rfl hS
     ·intro w' hS
      refine OpTo.passed (by kernel_rfl) rfl hS
     ·intro w' hS
      refine OpTo.passed (by kernel_rfl) rfl hS
     ·intro w' hS
      refine OpTo.passed (by kernel_rfl) rfl hS
     ·intro w' hS
      refine OpTo.plain ?_ ?_
      exact rfl
      have HS:=Lib.hid hS
      clear hS
      go_wp2_with fail
      all_goals first | exact HS.out | exact ⟨rfl,HS.out⟩ | rfl
    intro w2 hS
    have z2:w.heap.size + 1≤w2.heap.size:=Nat.le_trans z1 hS.size
    have KX2:=Lib.hid (KX1.out.below hS KX1.out.lt); have KY2:=Lib.hid (KY1.out.below hS KY1.out.lt)
    have B2:=Lib.hid (B1.out.trans (hS.mono B1.out.size)); have O2:=Lib.hid (owns_below O1.out hS)
    clear hS
    have dy_0:=KY2.out.cell 0
    have dy_1:=KY2.out.cell 1
    have dy_2:=KY2.out.cell 2
    have dy_3:=KY2.out.cell 3
    have dy_4:=KY2.out.cell 4
    simp at dy_0 dy_1 dy_2 dy_3 dy_4
    have hl2:(out).length≤100000:=by first | omega | (simp; omega)
    go_wp2_with (at_builtin; refine wpList_append_line _ rfl (.tmp 45) (.tmp 47) rfl (w.heap.size + 1) _ (out) rfl (O2.out.alloc _) _ _ y rfl (Blk.new _ _ _) hl2 (by simp; omega) ?_)
    intro v3 w3 hown3 hgr3
    have R2:∀ k,Value.ownBlock _=some k→w.heap.size + 1≤k:=fun k hk=>(owns_type O2.out hk).1
    have B3:=Lib.hid ((B2.out.alloc B2.out.size (.cells #[.int .u8 y.cr,.int .u8 y.de,.int .u8 y.cu,.int .i64 y.li,.int .i64 y.db] 72)).grown hgr3 (by simp; omega) (fun k hk=>by have:=R2 k hk; omega))
    have KX3:=Lib.hid ((KX2.out.alloc (.cells #[.int .u8 y.cr,.int .u8 y.de,.int .u8 y.cu,.int .i64 y.li,.int .i64 y.db] 72)).grown hgr3 (fun e=>by have:=R2 _ e; omega))
    have O3:=Lib.hid (show w3.ownsRow (w.heap.size + 1) 72 5 v3 (out++[y]).length (lnCells (out++[y])) by simpa using hown3)
    clear R2 hown3 hgr3
    go_wp2_with fail
    go_roundw
    case rel=>exact ⟨k + 1,by omega,by go_num,by rw [NX.out],by rw [NX.out]; exact O3.out,B3.out,KX3.out⟩
    case measure=>simp [intOf]; omega
   ·have q1:(y.rank==x.rank)=false:=by simp [h1]
    have NX:Hid (setTo (ls.take (k + 1)) x=(out++[x,y],true)):=Lib.hid (by rw [HS.out]; unfold setStep; rw [if_neg h1,if_pos ⟨rfl,h2⟩])
    have q2:decide (x.rank<y.rank)=true:=by simpa using h2
    clear HS h1 h2
    have z0:w.heap.size + 1≤(wr.alloc (.cells #[.int .u8 y.cr,.int .u8 y.de,.int .u8 y.cu,.int .i64 y.li,.int .i64 y.db] 72)).heap.size:=by simp; omega
    go_wp2_with fail
    generalize wr.alloc (.cells #[.int .u8 y.cr,.int .u8 y.de,.int .u8 y.cu,.int .i64 y.li,.int .i64 y.db] 72)=Wy at *
    generalize wr.heap.size=gy at *
    refine region_still (by kernel_rfl) [.agg #[.int .u8 y.cr,.int .u8 y.de,.int .u8 y.cu,.int .i64 y.li,.int .i64 y.db],.int .i64 y.rank,.agg #[.int .u8 x.cr,.int .u8 x.de,.int .u8 x.cu,.int .i64 x.li,.int .i64 x.db],.int .i64 x.rank,.bool false]
     (fun w'=>Below Wy.heap.size Wy w') (by kernel_rfl) (Below.refl _ _).drew ?_
    intro af haf
    simp only [puts,Act.put,List.getD_cons_zero,List.getD_cons_succ,List.setIfInBounds_toArray,List.set_cons_succ,List.set_cons_zero] at haf
    subst haf
    refine ⟨?_,?_⟩
    ·simp only [EachTo]
     refine ⟨?_,?_,?_,?_,?_,trivial⟩
     ·intro w' hS
      refine OpTo.plain ?_ ?_
      exact rfl
      have d0_0:=(KY0.out.below hS KY0.out.lt).cell 0
      have d0_1:=(KY0.out.below hS KY0.out.lt).cell 1
      have d0_2:=(KY0.out.below hS KY0.out.lt).cell 2
      have d0_3:=(KY0.out.below hS KY0.out.lt).cell 3
      have d0_4:=(KY0.out.below hS KY0.out.lt).cell 4
      simp at d0_0 d0_1 d0_2 d0_3 d0_4
      have HS:=Lib.hid hS
      clear hS
      go_wp2_with fail
      all_goals first | exact HS.out | exact ⟨rfl,HS.out⟩ | rfl
     ·intro w' hS
      refine OpTo.plain ?_ ?_
      exact rfl
      have HS:=Lib.hid hS
      clear hS
      go_wp2_with fail
      refine (cy.out w').mono ?_
      rintro e w'' ⟨rfl,hb2⟩
      exact ⟨rfl,andB HS.out hb2⟩
     ·intro w' hS
      refine OpTo.plain ?_ ?_
      exact rfl
      have d0_0:=(KX0.out.below hS KX0.out.lt).cell 0
      have d0_1:=(KX0.out.below hS KX0.out.lt).cell 1
      have d0_2:=(KX0.out.below hS KX0.out.lt).cell 2
      have d0_3:=(KX0.out.below hS KX0.out.lt).cell 3
      have d0_4:=(KX0.out.below hS KX0.out.lt).cell 4
      simp at d0_0 d0_1 d0_2 d0_3 d0_4
      have HS:=Lib.hid hS
      clear hS
      go_wp2_with fail
      all_goals first | exact HS.out | exact ⟨rfl,HS.out⟩ | rfl
     ·intro w' hS
      refine OpTo.plain ?_ ?_
      exact rfl
      have HS:=Lib.hid hS
      clear hS
      go_wp2_with fail
      refine (cx.out w').mono ?_
      rintro e w'' ⟨rfl,hb2⟩
      exact ⟨rfl,andB HS.out hb2⟩
     ·intro w' hS
      refine OpTo.plain ?_ ?_
      exact rfl
      have HS:=Lib.hid hS
      clear hS
      go_wp2_with fail
      all_goals first | exact HS.out | exact ⟨rfl,HS.out⟩ | rfl
    intro w1 hS
    have z1:w.heap.size + 1≤w1.heap.size:=Nat.le_trans z0 hS.size
    have KX1:=Lib.hid (KX0.out.below hS KX0.out.lt); have KY1:=Lib.hid (KY0.out.below hS KY0.out.lt)
    have B1:=Lib.hid (B0.out.trans (hS.mono B0.out.size)); have O1:=Lib.hid (owns_below O0.out hS)
    clear hS
    go_wp2_with fail
    refine region_still (by kernel_rfl) [.bool false,.bool true,.bool true,.agg #[.int .u8 y.cr,.int .u8 y.de,.int .u8 y.cu,.int .i64 y.li,.int .i64 y.db],.int .i64 y.rank,.agg #[.int .u8 x.cr,.int .u8 x.de,.int .u8 x.cu,.int .i64 x.li,.int .i64 x.db],.int .i64 x.rank,.bool true,.bool true]
     (fun w'=>Below w1.heap.size w1 w') (by kernel_rfl) (Below.refl _ _).drew ?_
    intro af haf
    simp only [puts,Act.put,List.getD_cons_zero,List.getD_cons_succ,List.setIfInBounds_toArray,List.set_cons_succ,List.set_cons_zero] at haf
    subst haf
    refine ⟨?_,?_⟩
    ·simp only [EachTo]
     refine ⟨?_,?_,?_,?_,?_,?_,?_,?_,?_,trivial⟩
     ·intro w' hS
      refine OpTo.plain ?_ ?_
      exact rfl
      have HS:=Lib.hid hS
      clear hS
      go_wp2_with fail
      all_goals first | exact HS.out | exact ⟨rfl,HS.out⟩ | rfl
     ·intro w' hS
      refine OpTo.plain ?_ ?_
      exact rfl
      have HS:=Lib.hid hS
      clear hS
      go_wp2_with fail
      all_goals first | exact HS.out | exact ⟨rfl,HS.out⟩ | rfl
     ·intro w' hS
      refine OpTo.plain ?_ ?_
      exact rfl
      have HS:=Lib.hid hS
      clear hS
      go_wp2_with fail
      all_goals first | exact HS.out | exact ⟨rfl,HS.out⟩ | rfl
     ·intro w' hS
      refine OpTo.wanted ?_ ?_
      kernel_rfl
      have d0_0:=(KY1.out.below hS KY1.out.lt).cell 0
      have d0_1:=(KY1.out.below hS KY1.out.lt).cell 1
      have d0_2:=(KY1.out.below hS KY1.out.lt).cell 2
      have d0_3:=(KY1.out.below hS KY1.out.lt).cell 3
      have d0_4:=(KY1.out.below hS KY1.out.lt).cell 4
      simp at d0_0 d0_1 d0_2 d0_3 d0_4
      have HS:=Lib.hid hS
      clear hS
      go_wp2_with fail
      all_goals first | exact HS.out | exact ⟨rfl,HS.out⟩ | rfl
     ·intro w' hS
      refine OpTo.wanted ?_ ?_
      kernel_rfl
      have HS:=Lib.hid hS
      clear hS
      go_wp2_with fail
      refine (cy.out w').mono ?_
      rintro e w'' ⟨rfl,hb2⟩
      exact ⟨rfl,andB HS.out hb2⟩
     ·intro w' hS
      refine OpTo.wanted ?_ ?_
      kernel_rfl
      have d0_0:=(KX1.out.below hS KX1.out.lt).cell 0
      have d0_1:=(KX1.out.below hS KX1.out.lt).cell 1
      have d0_2:=(KX1.out.below hS KX1.out.lt).cell 2
      have d0_3:=(KX1.out.below hS KX1.out.lt).cell 3
      have d0_4:=(KX1.out.below hS KX1.out.lt).cell 4
      simp at d0_0 d0_1 d0_2 d0_3 d0_4
      have HS:=Lib.hid hS
      clear hS
      go_wp2_with fail
      all_goals first | exact HS.out | exact ⟨rfl,HS.out⟩ | rfl
     ·intro w' hS
      refine OpTo.wanted ?_ ?_
      kernel_rfl
      have HS:=Lib.hid hS
      clear hS
      go_wp2_with fail
      refine (cx.out w').mono ?_
      rintro e w'' ⟨rfl,hb2⟩
      exact ⟨rfl,andB HS.out hb2⟩
     ·intro w' hS
      refine OpTo.wanted ?_ ?_
      kernel_rfl
      have HS:=Lib.hid hS
      clear hS
      go_wp2_with fail
      all_goals first | exact HS.out | exact ⟨rfl,HS.out⟩ | rfl
     ·intro w' hS
      refine OpTo.plain ?_ ?_
      exact rfl
      have HS:=Lib.hid hS
      clear hS
      go_wp2_with fail
      all_goals first | exact HS.out | exact ⟨rfl,HS.out⟩ | rfl
    intro w2 hS
    have z2:w.heap.size + 1≤w2.heap.size:=Nat.le_trans z1 hS.size
    have KX2:=Lib.hid (KX1.out.below hS KX1.out.lt); have KY2:=Lib.hid (KY1.out.below hS KY1.out.lt)
    have B2:=Lib.hid (B1.out.trans (hS.mono B1.out.size)); have O2:=Lib.hid (owns_below O1.out hS)
    clear hS
    have dx_0:=KX2.out.cell 0
    have dx_1:=KX2.out.cell 1
    have dx_2:=KX2.out.cell 2
    have dx_3:=KX2.out.cell 3
    have dx_4:=KX2.out.cell 4
    simp at dx_0 dx_1 dx_2 dx_3 dx_4
    have hl2:out.length≤100000:=by omega
    go_wp2_with (at_builtin; refine wpList_append_line _ rfl (.tmp 41) (.tmp 43) rfl (w.heap.size + 1) _ out rfl (O2.out.alloc _) _ _ x rfl (Blk.new _ _ _) hl2 (by simp; omega) ?_)
    intro v3 w3 hown3 hgr3
    have R2:∀ k,Value.ownBlock _=some k→w.heap.size + 1≤k:=fun k hk=>(owns_type O2.out hk).1
    have B3:=Lib.hid ((B2.out.alloc B2.out.size (.cells #[.int .u8 x.cr,.int .u8 x.de,.int .u8 x.cu,.int .i64 x.li,.int .i64 x.db] 72)).grown hgr3 (by simp; omega) (fun k hk=>by have:=R2 k hk; omega))
    have KX3:=Lib.hid ((KX2.out.alloc (.cells #[.int .u8 x.cr,.int .u8 x.de,.int .u8 x.cu,.int .i64 x.li,.int .i64 x.db] 72)).grown hgr3 (fun e=>by have:=R2 _ e; omega))
    have KY3:=Lib.hid ((KY2.out.alloc (.cells #[.int .u8 x.cr,.int .u8 x.de,.int .u8 x.cu,.int .i64 x.li,.int .i64 x.db] 72)).grown hgr3 (fun e=>by have:=hrow _ e; omega))
    have O3:=Lib.hid (show w3.ownsRow (w.heap.size + 1) 72 5 v3 (out++[x]).length (lnCells (out++[x])) by simpa using hown3)
    have z3:w.heap.size + 1≤w3.heap.size:=by have:=hgr3.size; simp at this; omega
    clear R2 hown3 hgr3
    have dy_0:=KY3.out.cell 0
    have dy_1:=KY3.out.cell 1
    have dy_2:=KY3.out.cell 2
    have dy_3:=KY3.out.cell 3
    have dy_4:=KY3.out.cell 4
    simp at dy_0 dy_1 dy_2 dy_3 dy_4
    have hl3:(out++[x]).length≤100000:=by first | omega | (simp; omega)
    go_wp2_with (at_builtin; refine wpList_append_line _ rfl (.tmp 45) (.tmp 47) rfl (w.heap.size + 1) _ (out++[x]) rfl (O3.out.alloc _) _ _ y rfl (Blk.new _ _ _) hl3 (by simp; omega) ?_)
    intro v4 w4 hown4 hgr4
    have R3:∀ k,Value.ownBlock _=some k→w.heap.size + 1≤k:=fun k hk=>(owns_type O3.out hk).1
    have B4:=Lib.hid ((B3.out.alloc B3.out.size (.cells #[.int .u8 y.cr,.int .u8 y.de,.int .u8 y.cu,.int .i64 y.li,.int .i64 y.db] 72)).grown hgr4 (by simp; omega) (fun k hk=>by have:=R3 k hk; omega))
    have KX4:=Lib.hid ((KX3.out.alloc (.cells #[.int .u8 y.cr,.int .u8 y.de,.int .u8 y.cu,.int .i64 y.li,.int .i64 y.db] 72)).grown hgr4 (fun e=>by have:=R3 _ e; omega))
    have O4:=Lib.hid (show w4.ownsRow (w.heap.size + 1) 72 5 v4 (out++[x,y]).length (lnCells (out++[x,y])) by simpa using hown4)
    clear R3 hown4 hgr4
    go_wp2_with fail
    go_roundw
    case rel=>exact ⟨k + 1,by omega,by go_num,by rw [NX.out],by rw [NX.out]; exact O4.out,B4.out,KX4.out⟩
    case measure=>simp [intOf]; omega
   ·have q1:(y.rank==x.rank)=false:=by simp [h1]
    have NX:Hid (setTo (ls.take (k + 1)) x=(out++[y],false)):=Lib.hid (by rw [HS.out]; unfold setStep; rw [if_neg h1,if_neg (by simp; omega)])
    have q2:decide (x.rank<y.rank)=false:=by simpa using h2
    clear HS h1 h2
    have z0:w.heap.size + 1≤(wr.alloc (.cells #[.int .u8 y.cr,.int .u8 y.de,.int .u8 y.cu,.int .i64 y.li,.int .i64 y.db] 72)).heap.size:=by simp; omega
    go_wp2_with fail
    generalize wr.alloc (.cells #[.int .u8 y.cr,.int .u8 y.de,.int .u8 y.cu,.int .i64 y.li,.int .i64 y.db] 72)=Wy at *
    generalize wr.heap.size=gy at *
    refine region_still (by kernel_rfl) [.agg #[.int .u8 y.cr,.int .u8 y.de,.int .u8 y.cu,.int .i64 y.li,.int .i64 y.db],.int .i64 y.rank,.agg #[.int .u8 x.cr,.int .u8 x.de,.int .u8 x.cu,.int .i64 x.li,.int .i64 x.db],.int .i64 x.rank,.bool false]
     (fun w'=>Below Wy.heap.size Wy w') (by kernel_rfl) (Below.refl _ _).drew ?_
    intro af haf
    simp only [puts,Act.put,List.getD_cons_zero,List.getD_cons_succ,List.setIfInBounds_toArray,List.set_cons_succ,List.set_cons_zero] at haf
    subst haf
    refine ⟨?_,?_⟩
    ·simp only [EachTo]
     refine ⟨?_,?_,?_,?_,?_,trivial⟩
     ·intro w' hS
      refine OpTo.plain ?_ ?_
      exact rfl
      have d0_0:=(KY0.out.below hS KY0.out.lt).cell 0
      have d0_1:=(KY0.out.below hS KY0.out.lt).cell 1
      have d0_2:=(KY0.out.below hS KY0.out.lt).cell 2
      have d0_3:=(KY0.out.below hS KY0.out.lt).cell 3
      have d0_4:=(KY0.out.below hS KY0.out.lt).cell 4
      simp at d0_0 d0_1 d0_2 d0_3 d0_4
      have HS:=Lib.hid hS
      clear hS
      go_wp2_with fail
      all_goals first | exact HS.out | exact ⟨rfl,HS.out⟩ | rfl
     ·intro w' hS
      refine OpTo.plain ?_ ?_
      exact rfl
      have HS:=Lib.hid hS
      clear hS
      go_wp2_with fail
      refine (cy.out w').mono ?_
      rintro e w'' ⟨rfl,hb2⟩
      exact ⟨rfl,andB HS.out hb2⟩
     ·intro w' hS
      refine OpTo.plain ?_ ?_
      exact rfl
      have d0_0:=(KX0.out.below hS KX0.out.lt).cell 0
      have d0_1:=(KX0.out.below hS KX0.out.lt).cell 1
      have d0_2:=(KX0.out.below hS KX0.out.lt).cell 2
      have d0_3:=(KX0.out.below hS KX0.out.lt).cell 3
      have d0_4:=(KX0.out.below hS KX0.out.lt).cell 4
      simp at d0_0 d0_1 d0_2 d0_3 d0_4
      have HS:=Lib.hid hS
      clear hS
      go_wp2_with fail
      all_goals first | exact HS.out | exact ⟨rfl,HS.out⟩ | rfl
     ·intro w' hS
      refine OpTo.plain ?_ ?_
      exact rfl
      have HS:=Lib.hid hS
      clear hS
      go_wp2_with fail
      refine (cx.out w').mono ?_
      rintro e w'' ⟨rfl,hb2⟩
      exact ⟨rfl,andB HS.out hb2⟩
     ·intro w' hS
      refine OpTo.plain ?_ ?_
      exact rfl
      have HS:=Lib.hid hS
      clear hS
      go_wp2_with fail
      all_goals first | exact HS.out | exact ⟨rfl,HS.out⟩ | rfl
    intro w1 hS
    have z1:w.heap.size + 1≤w1.heap.size:=Nat.le_trans z0 hS.size
    have KX1:=Lib.hid (KX0.out.below hS KX0.out.lt); have KY1:=Lib.hid (KY0.out.below hS KY0.out.lt)
    have B1:=Lib.hid (B0.out.trans (hS.mono B0.out.size)); have O1:=Lib.hid (owns_below O0.out hS)
    clear hS
    go_wp2_with fail
    refine region_still (by kernel_rfl) [.bool false,.bool true,.bool true,.agg #[.int .u8 y.cr,.int .u8 y.de,.int .u8 y.cu,.int .i64 y.li,.int .i64 y.db],.int .i64 y.rank,.agg #[.int .u8 x.cr,.int .u8 x.de,.int .u8 x.cu,.int .i64 x.li,.int .i64 x.db],.int .i64 x.rank,.bool false,.bool false]
     (fun w'=>Below w1.heap.size w1 w') (by kernel_rfl) (Below.refl _ _).drew ?_
    intro af haf
    simp only [puts,Act.put,List.getD_cons_zero,List.getD_cons_succ,List.setIfInBounds_toArray,List.set_cons_succ,List.set_cons_zero] at haf
    subst haf
    refine ⟨?_,?_⟩
    ·simp only [EachTo]
     refine ⟨?_,?_,?_,?_,?_,?_,?_,?_,?_,trivial⟩
     ·intro w' hS
      refine OpTo.plain ?_ ?_
      exact rfl
      have HS:=Lib.hid hS
      clear hS
      go_wp2_with fail
      all_goals first | exact HS.out | exact ⟨rfl,HS.out⟩ | rfl
     ·intro w' hS
      refine OpTo.plain ?_ ?_
      exact rfl
      have HS:=Lib.hid hS
      clear hS
      go_wp2_with fail
      all_goals first | exact HS.out | exact ⟨rfl,HS.out⟩ | rfl
     ·intro w' hS
      refine OpTo.plain ?_ ?_
      exact rfl
      have HS:=Lib.hid hS
      clear hS
      go_wp2_with fail
      all_goals first | exact HS.out | exact ⟨rfl,HS.out⟩ | rfl
     ·intro w' hS
      refine OpTo.wanted ?_ ?_
      kernel_rfl
      have d0_0:=(KY1.out.below hS KY1.out.lt).cell 0
      have d0_1:=(KY1.out.below hS KY1.out.lt).cell 1
      have d0_2:=(KY1.out.below hS KY1.out.lt).cell 2
      have d0_3:=(KY1.out.below hS KY1.out.lt).cell 3
      have d0_4:=(KY1.out.below hS KY1.out.lt).cell 4
      simp at d0_0 d0_1 d0_2 d0_3 d0_4
      have HS:=Lib.hid hS
      clear hS
      go_wp2_with fail
      all_goals first | exact HS.out | exact ⟨rfl,HS.out⟩ | rfl
     ·intro w' hS
      refine OpTo.wanted ?_ ?_
      kernel_rfl
      have HS:=Lib.hid hS
      clear hS
      go_wp2_with fail
      refine (cy.out w').mono ?_
      rintro e w'' ⟨rfl,hb2⟩
      exact ⟨rfl,andB HS.out hb2⟩
     ·intro w' hS
      refine OpTo.wanted ?_ ?_
      kernel_rfl
      have d0_0:=(KX1.out.below hS KX1.out.lt).cell 0
      have d0_1:=(KX1.out.below hS KX1.out.lt).cell 1
      have d0_2:=(KX1.out.below hS KX1.out.lt).cell 2
      have d0_3:=(KX1.out.below hS KX1.out.lt).cell 3
      have d0_4:=(KX1.out.below hS KX1.out.lt).cell 4
      simp at d0_0 d0_1 d0_2 d0_3 d0_4
      have HS:=Lib.hid hS
      clear hS
      go_wp2_with fail
      all_goals first | exact HS.out | exact ⟨rfl,HS.out⟩ | rfl
     ·intro w' hS
      refine OpTo.wanted ?_ ?_
      kernel_rfl
      have HS:=Lib.hid hS
      clear hS
      go_wp2_with fail
      refine (cx.out w').mono ?_
      rintro e w'' ⟨rfl,hb2⟩
      exact ⟨rfl,andB HS.out hb2⟩
     ·intro w' hS
      refine OpTo.wanted ?_ ?_
      kernel_rfl
      have HS:=Lib.hid hS
      clear hS
      go_wp2_with fail
      all_goals first | exact HS.out | exact ⟨rfl,HS.out⟩ | rfl
     ·intro w' hS
      refine OpTo.plain ?_ ?_
      exact rfl
      have HS:=Lib.hid hS
      clear hS
      go_wp2_with fail
      all_goals first | exact HS.out | exact ⟨rfl,HS.out⟩ | rfl
    intro w2 hS
    have z2:w.heap.size + 1≤w2.heap.size:=Nat.le_trans z1 hS.size
    have KX2:=Lib.hid (KX1.out.below hS KX1.out.lt); have KY2:=Lib.hid (KY1.out.below hS KY1.out.lt)
    have B2:=Lib.hid (B1.out.trans (hS.mono B1.out.size)); have O2:=Lib.hid (owns_below O1.out hS)
    clear hS
    have dy_0:=KY2.out.cell 0
    have dy_1:=KY2.out.cell 1
    have dy_2:=KY2.out.cell 2
    have dy_3:=KY2.out.cell 3
    have dy_4:=KY2.out.cell 4
    simp at dy_0 dy_1 dy_2 dy_3 dy_4
    have hl2:(out).length≤100000:=by first | omega | (simp; omega)
    go_wp2_with (at_builtin; refine wpList_append_line _ rfl (.tmp 45) (.tmp 47) rfl (w.heap.size + 1) _ (out) rfl (O2.out.alloc _) _ _ y rfl (Blk.new _ _ _) hl2 (by simp; omega) ?_)
    intro v3 w3 hown3 hgr3
    have R2:∀ k,Value.ownBlock _=some k→w.heap.size + 1≤k:=fun k hk=>(owns_type O2.out hk).1
    have B3:=Lib.hid ((B2.out.alloc B2.out.size (.cells #[.int .u8 y.cr,.int .u8 y.de,.int .u8 y.cu,.int .i64 y.li,.int .i64 y.db] 72)).grown hgr3 (by simp; omega) (fun k hk=>by have:=R2 k hk; omega))
    have KX3:=Lib.hid ((KX2.out.alloc (.cells #[.int .u8 y.cr,.int .u8 y.de,.int .u8 y.cu,.int .i64 y.li,.int .i64 y.db] 72)).grown hgr3 (fun e=>by have:=R2 _ e; omega))
    have O3:=Lib.hid (show w3.ownsRow (w.heap.size + 1) 72 5 v3 (out++[y]).length (lnCells (out++[y])) by simpa using hown3)
    clear R2 hown3 hgr3
    go_wp2_with fail
    go_roundw
    case rel=>exact ⟨k + 1,by omega,by go_num,by rw [NX.out],by rw [NX.out]; exact O3.out,B3.out,KX3.out⟩
    case measure=>simp [intOf]; omega
  ·have hke:ls.take k=ls:=List.take_of_length_le (by omega)
   rw [hke] at hown hlo ⊢
   have E:=Lib.hid (show setL ls x=if (setTo ls x).2=false then (setTo ls x).1++[x] else (setTo ls x).1 from rfl)
   have FR:=Lib.hid hb.size
   clear hke hlk
   generalize setTo ls x=s at *
   obtain ⟨out,put⟩:=s
   dsimp only at *
   have O0:=Lib.hid hown; have B0:=Lib.hid hb; have KX0:=Lib.hid hkx
   have z0:w.heap.size + 1≤wr.heap.size:=hkx.lt
   have hf:=(H.out.blk.below hb hg).frozen
   clear hown hb hkx
   cases put
   ·have E':=Lib.hid (show setL ls x=out++[x] from E.out)
    have hl0:out.length≤100000:=by omega
    have dx_0:=KX0.out.cell 0
    have dx_1:=KX0.out.cell 1
    have dx_2:=KX0.out.cell 2
    have dx_3:=KX0.out.cell 3
    have dx_4:=KX0.out.cell 4
    simp at dx_0 dx_1 dx_2 dx_3 dx_4
    go_wp2_with (at_builtin; refine wpList_append_line _ rfl (.tmp 51) (.tmp 53) rfl (w.heap.size + 1) _ out rfl (O0.out.alloc _) _ _ x rfl (Blk.new _ _ _) hl0 (by simp; omega) ?_)
    intro v3 w3 hown3 hgr3
    have R2:∀ k,Value.ownBlock _=some k→w.heap.size + 1≤k:=fun k hk=>(owns_type O0.out hk).1
    have B3:=Lib.hid ((B0.out.alloc B0.out.size (.cells #[.int .u8 x.cr,.int .u8 x.de,.int .u8 x.cu,.int .i64 x.li,.int .i64 x.db] 72)).grown hgr3 (by simp; omega) (fun k hk=>by have:=R2 k hk; omega))
    have O3:=Lib.hid (show w3.ownsRow (w.heap.size + 1) 72 5 v3 (out++[x]).length (lnCells (out++[x])) by simpa using hown3)
    clear R2 hown3 hgr3
    clear dg hf
    have dg:=(H.out.blk.below B3.out hg).cell 1
    simp at dg
    have hf:=(H.out.blk.below B3.out hg).frozen
    have hg3:=(H.out.blk.below B3.out hg).lt
    obtain ⟨ao3,cap3,hv3,_⟩:=owns_open O3.out
    subst hv3
    go_wp2
    go_end0
    exact ⟨rfl,set_done H.out hg B3.out (by rw [E'.out]; have q:=O3.out; simpa using q)⟩
   ·have E':=Lib.hid (show setL ls x=out from E.out)
    obtain ⟨ao3,cap3,hv3,_⟩:=owns_open O0.out
    subst hv3
    go_wp2
    go_end0
    exact ⟨rfl,set_done H.out hg B0.out (by rw [E'.out]; exact O0.out)⟩
end Go.Proofs.YtlbjjkbppbmihaaGreat
namespace Go.Proofs.YtlbjjkbppbmihaaGreat
open Go.RowKit
theorem RefL.keep {S:Nat→Prop} {w w':World} {base g:Nat} {ps:List Int} {ls:List Ln} {vp vl:Value} (h:RefL w base g ps ls vp vl) (k:Keep S w w') (h1:¬ S g) (h2:∀ b,vp.ownBlock=some b→¬ S b) (h3:∀ b,vl.ownBlock=some b→¬ S b):RefL w' base g ps ls vp vl :=
 ⟨h.blk.keep k h1,h.ge,owns_keep h.p k h2,owns_keep h.l k h3⟩
theorem RefL.below {w w':World} {base g:Nat} {ps:List Int} {ls:List Ln} {vp vl:Value} (h:RefL w base g ps ls vp vl) (k:Below w.heap.size w w'):RefL w' base g ps ls vp vl :=
 h.keep (Keep.of_below (S:=fun _=>False) k) id (fun _ _=>id) (fun _ _=>id)
theorem rnew_any (w:World) (base:Nat) (hb:base≤w.heap.size) :
  Calls Tryz.prog 7 #[] w fun e w'=>e=.returned (.pointer (some ⟨w.heap.size,0,none⟩))∧RefL w' base w.heap.size [] [] (.slice none 0 0) (.slice none 0 0)∧Below w.heap.size w w':=by
 have K:=Lib.hid (Blk.new w #[.slice none 0 0,.slice none 0 0] 69)
 go_enter Tryz.func7,Tryz.ntmps7
 go_wp2
 go_ret
 exact ⟨rfl,⟨K.out,hb,World.ownsRow_nil _ _ _ _,World.ownsRow_nil _ _ _ _⟩,(Below.refl _ _).alloc (Nat.le_refl _) _⟩
def openTo (ps:List Int) (p:Int) (k:Nat):List Int:=((List.range (k - 1)).map fun i:Nat=>(i:Int) + 1).filter fun q=>q==p || decide (q ∈ ps)
theorem openTo_next (ps:List Int) (p:Int) (k:Nat) (h:1≤k):openTo ps p (k + 1)=openTo ps p k++(if ((k:Int)==p || decide ((k:Int) ∈ ps))=true then [(k:Int)] else []):=by
 unfold openTo
 rw [show k + 1 - 1=(k - 1) + 1 by omega,List.range_succ,List.map_append,List.filter_append]
 congr 1
 rw [List.map_singleton,show ((k - 1:Nat):Int) + 1=(k:Int) by omega]
 simp only [List.filter_cons,List.filter_nil]
theorem openTo_len (ps:List Int) (p:Int) (k:Nat):(openTo ps p k).length≤k:=by
 unfold openTo
 refine Nat.le_trans (List.length_filter_le _ _) ?_
 simp
def openE (ps:List Int) (p:Int):Int:=if p<1∨16<p then 1 else if p ∈ ps then 8 else 0
def openP (ps:List Int) (p:Int):List Int:=if p<1∨16<p then ps else if p ∈ ps then ps else openTo ps p 17
theorem info_party:(Tryz.prog.info? 30).map (fun i=>(i.zero,i.size,i.bytes))=some (some (.int .u8 0),1,1):=by kernel_rfl
theorem wpList_append_party (w:World) {ops:Array Oper} {rest:List Oper} {o:Oper} {a:Act} {Q:Exit→Act→World→Prop} (hgd:o.guard=none) (s x:Operand)
  (ho:o.op=.call { callee:=.builtin .append,args:=#[s,x],argTypes:=#[67,67] }) (base:Nat) (v:Value) (ps:List Int) (hs:a.eval s=v)
  (hown:w.ownsRow base 30 1 v ps.length (ps.map (.int .u8))) (g c:Nat) (y:Int) (hx:a.eval x=.slice (some ⟨g,0,none⟩) 1 c) (hy:Blk w g #[.int .u8 y] 30) (hlen:ps.length≤100000) (hbase:base≤w.heap.size)
  (h:∀ v' w',w'.ownsRow base 30 1 v' (ps++[y]).length ((ps++[y]).map (.int .u8))→w.grownBy w' v.ownBlock→wpList Tryz.prog ops Q rest (a.put o.dst v') w'):wpList Tryz.prog ops Q (o::rest) a w:=by
 obtain ⟨i0,hi,hz0,hz1,hz2⟩:=info_parts info_party
 refine wpList_append_own w hgd s x 67 ho base 30 i0 (.int .u8 0) 1 1 Tryz.underlying67 hi hz0 hz1 hz2 rfl (by decide) v ps.length (ps.map (.int .u8)) hs hown ⟨g,0,none⟩ 1 c [.int .u8 y] hx rfl ?_ ?_ (by unfold maxLen; omega) (by omega) hbase ?_
 ·intro j u hj
  have:=hy.cell j
  rw [Go.WideShapes.add_plain]
  match j,hj with
  | 0,hj=>simp at hj; subst hj; simpa using this
  | j + 1,hj=>simp at hj
 ·intro u hu
  simp at hu
  subst hu; rfl
 ·intro v' w' h1 h2 _
  refine h v' w' ?_ h2
  rw [List.map_append,List.length_append]
  exact h1
def OpenAt (ps:List Int) (p:Int) (w:World) (v q:Value) (wr:World):Prop :=
 ∃ k:Nat,1≤k∧k≤17∧q=.int .u8 k∧wr.ownsRow w.heap.size 30 1 v (openTo ps p k).length ((openTo ps p k).map (.int .u8))∧Below w.heap.size w wr
set_option maxHeartbeats 4000000 in
theorem ropen_any {w:World} {base g:Nat} {ps:List Int} {ls:List Ln} {vp vl:Value} (h:RefL w base g ps ls vp vl) (p:Int) :
  Calls Tryz.prog 30 #[.pointer (some ⟨g,0,none⟩),.int .u8 p] w fun e w'=>e=.returned (.int .i64 (openE ps p))∧∃ vp',RefL w' base g (openP ps p) ls vp' vl∧Keep (·=g) w w':=by
 have H:=Lib.hid h
 have c:=Lib.hid (fun (w':World) (k:Below w.heap.size w w') (q:Int)=>rhas_any (h.below k) q)
 have hg:=h.blk.lt
 clear h
 have hs:p<1∨(1≤p∧16<p)∨(1≤p∧p≤16):=by omega
 rcases hs with h1 | ⟨h1,h2⟩ | ⟨h1,h2⟩
 ·have E:=Lib.hid (show openE ps p=1∧openP ps p=ps by unfold openE openP; rw [if_pos (.inl h1),if_pos (.inl h1)]; exact ⟨rfl,rfl⟩)
  go_enter Tryz.func30,Tryz.ntmps30
  go_wp2_with fail
  go_ret
  exact ⟨by rw [E.out.1]; rfl,_,by rw [E.out.2]; exact H.out,Keep.refl _ _⟩
 ·have E:=Lib.hid (show openE ps p=1∧openP ps p=ps by unfold openE openP; rw [if_pos (.inr h2),if_pos (.inr h2)]; exact ⟨rfl,rfl⟩)
  go_enter Tryz.func30,Tryz.ntmps30
  go_wp2_with fail
  go_ret
  exact ⟨by rw [E.out.1]; rfl,_,by rw [E.out.2]; exact H.out,Keep.refl _ _⟩
 ·by_cases hp:p ∈ ps
  ·have E:=Lib.hid (show openE ps p=8∧openP ps p=ps from ⟨by unfold openE; rw [if_neg (by omega),if_pos hp],by unfold openP; rw [if_neg (by omega),if_pos hp]⟩)
   have c0:=Lib.hid (rhas_any H.out p)
   rw [decide_eq_true hp] at c0
   clear hp c
   go_enter Tryz.func30,Tryz.ntmps30
   go_wp2_with fail
   refine c0.out.mono ?_
   rintro e w1 ⟨rfl,rfl⟩
   go_wp2_with fail
   go_ret
   exact ⟨by rw [E.out.1]; rfl,_,by rw [E.out.2]; exact H.out,Keep.refl _ _⟩
  ·have E:=Lib.hid (show openE ps p=0∧openP ps p=openTo ps p 17 from ⟨by unfold openE; rw [if_neg (by omega),if_neg hp],by unfold openP; rw [if_neg (by omega),if_neg hp]⟩)
   have c0:=Lib.hid (rhas_any H.out p)
   rw [decide_eq_false hp] at c0
   clear hp
   go_enter Tryz.func30,Tryz.ntmps30
   go_wp2_with fail
   refine c0.out.mono ?_
   rintro e w ⟨rfl,rfl⟩
   go_wp2_with fail
   go_loopw [5,6] (OpenAt ps p w) (fun _ q _=>17 - (intOf q).toNat)
   case atStart=>exact ⟨1,by omega,by omega,rfl,World.ownsRow_nil _ _ _ _,Below.refl _ _⟩
   case round =>
    obtain ⟨k,hk0,hk,rfl,hown,hb⟩:=hrel
    have hl:=openTo_len ps p k
    have O0:=Lib.hid hown; have B0:=Lib.hid hb
    have hz:=hb.size
    clear hown hb
    by_cases hkl:k≤16
    ·have N:=Lib.hid (openTo_next ps p k hk0)
     have cq:=Lib.hid (c.out _ B0.out (k:Int))
     have hs:(((k:Int)==p)=true)∨(((k:Int)==p)=false∧(k:Int) ∈ ps)∨(((k:Int)==p)=false∧¬ (k:Int) ∈ ps):=by
      cases ((k:Int)==p) <;> simp <;> exact Classical.em _
     rcases hs with s1 | ⟨s1,s2⟩ | ⟨s1,s2⟩
     ·have N2:Hid (openTo ps p (k + 1)=openTo ps p k++[(k:Int)]):=Lib.hid (by rw [N.out,s1]; rfl)
      clear N
      generalize openTo ps p k=out at *
      have hl2:out.length≤100000:=by omega
      go_wp2_with (at_builtin; refine wpList_append_party _ rfl (.tmp 28) (.tmp 30) rfl w.heap.size _ out rfl (O0.out.alloc _) _ _ (k:Int) rfl (Blk.new _ _ _) hl2 (by simp; omega) ?_)
      intro v3 w3 hown3 hgr3
      have R2:∀ k,Value.ownBlock _=some k→w.heap.size≤k:=fun k hk=>(owns_type O0.out hk).1
      have B3:=Lib.hid ((B0.out.alloc B0.out.size (.cells #[.int .u8 (k:Int)] 30)).grown hgr3 (by simp; omega) (fun k hk=>R2 k hk))
      have O3:=Lib.hid (show w3.ownsRow w.heap.size 30 1 v3 (out++[(k:Int)]).length ((out++[(k:Int)]).map (.int .u8)) by simpa using hown3)
      clear R2 hown3 hgr3
      go_wp2_with fail
      go_roundw
      case rel=>exact ⟨k + 1,by omega,by omega,by go_num,by rw [N2.out]; exact O3.out,B3.out⟩
      case measure=>simp [intOf]; omega
     ·have N2:Hid (openTo ps p (k + 1)=openTo ps p k++[(k:Int)]):=Lib.hid (by rw [N.out,s1,decide_eq_true s2]; rfl)
      rw [decide_eq_true s2] at cq
      clear N s2
      generalize openTo ps p k=out at *
      have hl2:out.length≤100000:=by omega
      go_wp2_with fail
      refine cq.out.mono ?_
      rintro e wr ⟨rfl,rfl⟩
      go_wp2_with (at_builtin; refine wpList_append_party _ rfl (.tmp 28) (.tmp 30) rfl w.heap.size _ out rfl (O0.out.alloc _) _ _ (k:Int) rfl (Blk.new _ _ _) hl2 (by simp; omega) ?_)
      intro v3 w3 hown3 hgr3
      have R2:∀ k,Value.ownBlock _=some k→w.heap.size≤k:=fun k hk=>(owns_type O0.out hk).1
      have B3:=Lib.hid ((B0.out.alloc B0.out.size (.cells #[.int .u8 (k:Int)] 30)).grown hgr3 (by simp; omega) (fun k hk=>R2 k hk))
      have O3:=Lib.hid (show w3.ownsRow w.heap.size 30 1 v3 (out++[(k:Int)]).length ((out++[(k:Int)]).map (.int .u8)) by simpa using hown3)
      clear R2 hown3 hgr3
      go_wp2_with fail
      go_roundw
      case rel=>exact ⟨k + 1,by omega,by omega,by go_num,by rw [N2.out]; exact O3.out,B3.out⟩
      case measure=>simp [intOf]; omega
     ·have N2:Hid (openTo ps p (k + 1)=openTo ps p k):=Lib.hid (by rw [N.out,s1,decide_eq_false s2]; simp)
      rw [decide_eq_false s2] at cq
      clear N s2
      go_wp2_with fail
      refine cq.out.mono ?_
      rintro e wr ⟨rfl,rfl⟩
      go_wp2_with fail
      go_roundw
      case rel=>exact ⟨k + 1,by omega,by omega,by go_num,by rw [N2.out]; exact O0.out,B0.out⟩
      case measure=>simp [intOf]; omega
    ·obtain rfl:k=17:=by omega
     have d0:=(H.out.blk.below B0.out hg).cell 0
     simp at d0
     have hf:=(H.out.blk.below B0.out hg).frozen
     have hg3:=(H.out.blk.below B0.out hg).lt
     obtain ⟨ao3,cap3,hv3,_⟩:=owns_open O0.out
     subst hv3
     go_wp2
     go_ret
     refine ⟨by rw [E.out.1]; rfl,.slice ao3 (openTo ps p 17).length cap3,⟨?_,H.out.ge,?_,?_⟩,Keep.setCell (S:=(·=g)) (Keep.of_below B0.out) (p:=⟨g,0,none⟩) (.inl rfl) _⟩
     ·have:=(H.out.blk.below B0.out hg).set 0 (.slice ao3 (openTo ps p 17).length cap3)
      simpa using this
     ·rw [E.out.2]
      exact owns_keep (owns_base O0.out (by have:=H.out.ge; omega)) (Keep.setCell (S:=(·=g)) (Keep.refl _ _) (p:=⟨g,0,none⟩) (.inl rfl) _) (owns_ne O0.out (H.out.blk.below B0.out hg) (by decide))
     ·exact owns_keep (owns_below H.out.l B0.out) (Keep.setCell (S:=(·=g)) (Keep.refl _ _) (p:=⟨g,0,none⟩) (.inl rfl) _) (owns_ne (owns_below H.out.l B0.out) (H.out.blk.below B0.out hg) (by decide))
end Go.Proofs.YtlbjjkbppbmihaaGreat
