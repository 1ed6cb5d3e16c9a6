/-
  Pieces of one proof, without what is not wanted: PRow.
-/
import Derived.Test.YtngnfdnfpiiclaaGreatV04
import Derived.Test.YtngnfdnfpiiclaaGreatV05
import Derived.Test.YtngnfdnfpiiclaaGreatV06
import Derived.Deep.AppendSrc
import Derived.Deep.LoopGhost
set_option linter.unusedSimpArgs false
set_option linter.unusedVariables false
namespace Go.Proofs.YtngnfdnfpiiclaaGreat
open Go.RowKit
theorem clipY_any {w:World} {base:Nat} {v:Value} {n:Nat} {xs:List Value} (h:w.ownsRow base 68 1 v n xs) :
  Calls Tryz.prog 97 #[v] w (ClipPost w base 68 1 n v xs):=by
 rcases h.2 with ⟨rfl,h0⟩ | ⟨g,cap,cur,rfl,hbase,hb,h1,h2,h3,h4⟩
 ·subst h0
  have hr:=run_slice_clip_none (P:=Tryz.prog) w 41 68 1 Tryz.underlying41 (Tryz.sizeOf68 w)
  have hx:=h.1
  have hx2:=Lib.hid hx
  clear h hx
  go_enter Tryz.func97,Tryz.ntmps97
  go_wp2
  refine bodyPost_ret (v:=.slice none 0 0) (by simp [results,Tryz.results97,go_sem]) rfl ?_
  exact ⟨_,rfl,⟨hx2.out,.inl ⟨rfl,rfl⟩⟩,rfl,rfl⟩
 ·have hr:=run_slice_clip (P:=Tryz.prog) w 41 68 1 Tryz.underlying41 (Tryz.sizeOf68 w) g n cap h1
  have HR:=Lib.hid (show Rowed w base 68 1 (.slice (some ⟨g,0,none⟩) n n) n xs from ⟨h.1,.inr ⟨g,cur,rfl,hbase,hb,by omega,by omega,h4⟩⟩)
  clear h hb h4 h3
  unfold maxLen at h2
  go_enter Tryz.func97,Tryz.ntmps97
  go_wp2
  refine bodyPost_ret (v:=.slice (some ⟨g,0,none⟩) n n) (by simp [results,Tryz.results97,go_sem]) rfl ?_
  exact ⟨_,rfl,HR.out,rfl,rfl⟩
def RowF (w:World) (g:Nat) (e:TypeId) (c n:Nat) (F:Nat→Int):Prop:=∃ cur,Blk w g cur e∧cur.size=c∧n≤c∧∀ p,p<n→cur[p]? = some (.int .u8 (F p))
theorem RowF.lt {w:World} {g:Nat} {e:TypeId} {c n:Nat} {F:Nat→Int} (h:RowF w g e c n F):g<w.heap.size:=by
 obtain ⟨cur,h1,_⟩:=h
 exact h1.lt
theorem RowF.cell {w:World} {g:Nat} {e:TypeId} {c n:Nat} {F:Nat→Int} (h:RowF w g e c n F) {p:Nat} (hp:p<n):w.cell? ⟨g,p,none⟩=some (.int .u8 (F p)):=by
 obtain ⟨cur,h1,_,_,h4⟩:=h
 rw [h1.cell]; exact h4 p hp
theorem RowF.frozen {w:World} {g:Nat} {e:TypeId} {c n:Nat} {F:Nat→Int} (h:RowF w g e c n F) (p:Nat):w.frozen? ⟨g,p,none⟩=false:=by
 obtain ⟨cur,h1,_⟩:=h
 exact h1.frozen p
theorem RowF.set {w:World} {g:Nat} {e:TypeId} {c n:Nat} {F:Nat→Int} (h:RowF w g e c n F) {p:Nat} (hp:p<n) (u:Int):RowF (w.setCell ⟨g,p,none⟩ (.int .u8 u)) g e c n (fun q=>if q=p then u else F q):=by
 obtain ⟨cur,h1,h2,h3,h4⟩:=h
 refine ⟨_,h1.set p (.int .u8 u),by simpa using h2,h3,fun q hq=>?_⟩
 by_cases e:q=p
 ·subst e
  rw [Array.getElem?_setIfInBounds_self_of_lt (by omega)]
  simp
 ·rw [Array.getElem?_setIfInBounds_ne (fun h=>e h.symm),h4 q hq]
  simp [e]
theorem RowF.congr {w:World} {g:Nat} {e:TypeId} {c n:Nat} {F G:Nat→Int} (h:RowF w g e c n F) (hf:∀ p,p<n→F p=G p):RowF w g e c n G:=by
 obtain ⟨cur,h1,h2,h3,h4⟩:=h
 exact ⟨cur,h1,h2,h3,fun p hp=>by rw [← hf p hp]; exact h4 p hp⟩
theorem RowF.drew {w:World} {g:Nat} {e:TypeId} {c n:Nat} {F:Nat→Int} (h:RowF w g e c n F):RowF w.drew g e c n F:=h
theorem RowF.owns {w:World} {g:Nat} {e:TypeId} {c n base:Nat} {F:Nat→Int} (h:RowF w g e c n F) (hb:base≤g) (hc:c≤maxLen) {L:List Int} (hl:L.length=n) (hL:∀ p (hp:p<L.length),L[p]=F p) :
  w.ownsRow base e 1 (.slice (some ⟨g,0,none⟩) n c) n (L.map (.int .u8)):=by
 obtain ⟨cur,h1,h2,h3,h4⟩:=h
 refine ⟨by simp [hl],.inr ⟨g,c,cur,rfl,hb,h1,h3,hc,by omega,?_⟩⟩
 apply List.ext_getElem?
 intro p
 by_cases hp:p<n
 ·rw [List.getElem?_take_of_lt (by omega),Array.getElem?_toList,h4 p hp,List.getElem?_map,List.getElem?_eq_getElem (by omega),hL p (by omega)]
  rfl
 ·rw [List.getElem?_eq_none (by simp; omega),List.getElem?_eq_none (by simp; omega)]
theorem RowF.of {w:World} {base:Nat} {e:TypeId} {v:Value} {L:List Int} (h:w.ownsRow base e 1 v L.length (L.map (.int .u8))) (h0:0<L.length) :
  ∃ g c,v=.slice (some ⟨g,0,none⟩) L.length c∧base≤g∧c≤maxLen∧L.length≤c∧RowF w g e c L.length (fun p=>L.getD p 0):=by
 obtain ⟨_,⟨_,h2⟩ | ⟨g,cap,cur,rfl,hb,hg,h1,h2,h3,h4⟩⟩:=h
 ·omega
 ·refine ⟨g,cap,rfl,hb,h2,h1,cur,hg,by omega,h1,fun p hp=>?_⟩
  have:(cur.toList.take (L.length * 1))[p]? = (L.map (Value.int .u8))[p]? := by rw [h4]
  rw [List.getElem?_take_of_lt (by omega),Array.getElem?_toList,List.getElem?_map] at this
  rw [this,List.getElem?_eq_getElem hp]
  simp [List.getElem?_eq_getElem hp]
def RevAt (w:World) (g:Nat) (e:TypeId) (c n:Nat) (F:Nat→Int) (iv jv:Value) (wr:World):Prop :=
 ∃ (i:Nat) (j:Int),i≤n∧j=(n:Int) - 1 - i∧iv=.int .i64 i∧jv=.int .i64 j∧RowF wr g e c n (fun p=>if p<i∨n≤p + i then F (n - 1 - p) else F p)∧Below g w wr
set_option maxHeartbeats 4000000 in
theorem revF_any {w:World} {g c n:Nat} {F:Nat→Int} (h:RowF w g 68 c n F) (hn:n≤100000) :
  Calls Tryz.prog 312 #[.slice (some ⟨g,0,none⟩) n c] w fun e w'=>e=.returned (.tuple #[])∧RowF w' g 68 c n (fun p=>F (n - 1 - p))∧Below g w w':=by
 have H:=Lib.hid h
 clear h
 go_enter Tryz.func312,Tryz.ntmps312
 go_wp2
 go_loopw [2,3] (RevAt w g 68 c n F) (fun i _ _=>n - (intOf i).toNat)
 case atStart=>exact ⟨0,(n:Int) - 1,by omega,by omega,rfl,rfl,H.out.congr (fun p hp=>by rw [if_neg (by omega)]),Below.refl _ _⟩
 case round =>
  obtain ⟨i,j,hi,hj,rfl,rfl,hrow,hb⟩:=hrel
  have R:=Lib.hid hrow
  have B:=Lib.hid hb
  clear hrow hb H
  by_cases hlt:(i:Int)<j
  ·obtain ⟨k,rfl⟩:∃ k:Nat,j=k:=⟨j.toNat,by omega⟩
   have hik:i<k:=by omega
   have hkn:k + i + 1=n:=by omega
   have HK:=Lib.hid hkn
   clear hj
   have ci:=R.out.cell (p:=i) (by omega)
   have ck:=R.out.cell (p:=k) (by omega)
   have fi:=R.out.frozen i
   have fk:=R.out.frozen k
   have hgl:=R.out.lt
   try dsimp only at ci ck
   rw [if_neg (by omega)] at ci ck
   clear hkn
   have hkn:=HK.out
   have RA:=Lib.hid ((R.out.drew.set (p:=i) (by omega) (F k)).set (p:=k) (by omega) (F i))
   have RB:=Lib.hid ((R.out.drew.set (p:=k) (by omega) (F i)).set (p:=i) (by omega) (F k))
   have BA:=Lib.hid ((((B.out.trans (Below.refl g wr).drew).setCell (p:=⟨g,i,none⟩) (Nat.le_refl _) (.int .u8 (F k)))).setCell (p:=⟨g,k,none⟩) (Nat.le_refl _) (.int .u8 (F i)))
   have BB:=Lib.hid ((((B.out.trans (Below.refl g wr).drew).setCell (p:=⟨g,k,none⟩) (Nat.le_refl _) (.int .u8 (F i)))).setCell (p:=⟨g,i,none⟩) (Nat.le_refl _) (.int .u8 (F k)))
   have FE:Hid (∀ p,p<n→(if p=k then F i else if p=i then F k else if p<i∨n≤p + i then F (n - 1 - p) else F p)=if p<i + 1∨n≤p + (i + 1) then F (n - 1 - p) else F p):=Lib.hid (fun p hp=>by
    by_cases e1:p=k
    ·subst e1; rw [if_pos rfl,if_pos (by omega)]; congr 1; omega
    ·rw [if_neg e1]
     by_cases e2:p=i
     ·subst e2; rw [if_pos rfl,if_pos (by omega)]; congr 1; omega
     ·rw [if_neg e2]
      by_cases e3:p<i∨n≤p + i
      ·rw [if_pos e3,if_pos (by omega)]
      ·rw [if_neg e3,if_neg (by omega)])
   have FE2:Hid (∀ p,p<n→(if p=i then F k else if p=k then F i else if p<i∨n≤p + i then F (n - 1 - p) else F p)=if p<i + 1∨n≤p + (i + 1) then F (n - 1 - p) else F p):=Lib.hid (fun p hp=>by
    rw [← FE.out p hp]
    by_cases e1:p=k
    ·rw [if_neg (by omega),if_pos e1,if_pos e1]
    ·by_cases e2:p=i
     ·rw [if_pos e2,if_neg e1,if_pos e2]
     ·rw [if_neg e2,if_neg e1,if_neg e1,if_neg e2])
   have R1:=Lib.hid (RA.out.congr FE.out)
   have R2:=Lib.hid (RB.out.congr FE2.out)
   clear RA RB FE FE2 R
   go_wp2_with fail
   go_region
   all_goals
    go_wp2
    go_roundw
    case rel=>exact ⟨i + 1,(k:Int) - 1,by omega,by omega,by go_num,by go_num,by first | exact R1.out | exact R2.out,by first | exact BA.out | exact BB.out⟩
    case measure=>simp [intOf]; omega
  ·go_wp2
   go_end0
   refine ⟨rfl,R.out.congr (fun p hp=>?_),B.out⟩
   by_cases e:p<i∨n≤p + i
   ·rw [if_pos e]
   ·rw [if_neg e]; congr 1; omega
theorem rev_any {w:World} {base:Nat} {v:Value} {L:List Int} (h:w.ownsRow base 68 1 v L.length (L.map (.int .u8))) (h0:0<L.length) (hl:L.length≤100000) :
  Calls Tryz.prog 312 #[v] w fun e w'=>e=.returned (.tuple #[])∧w'.ownsRow base 68 1 v L.length (L.reverse.map (.int .u8))∧Below base w w':=by
 obtain ⟨g,c,rfl,hb,hc,hlc,hr⟩:=RowF.of h h0
 refine (revF_any hr hl).mono ?_
 rintro e w' ⟨rfl,h1,h2⟩
 refine ⟨rfl,h1.owns hb hc (by simp) (fun p hp=>?_),h2.mono hb⟩
 have hp':p<L.length:=by simpa using hp
 rw [List.getElem_reverse,List.getD_eq_getElem?_getD,List.getElem?_eq_getElem (by omega)]
 rfl
theorem pmayP_any (p:Int) (w:World):Calls Tryz.prog 288 #[.int .u8 p] w fun e w'=>e=.returned (.bool (mayG p))∧w=w':=by
 have hs:(¬ 1≤p∧mayG p=false)∨(1≤p∧p≤16∧mayG p=true)∨(1≤p∧¬ p≤16∧mayG p=false):=by unfold mayG; simp; omega
 rcases hs with ⟨h1,h2⟩ | ⟨h1,h3,h2⟩ | ⟨h1,h3,h2⟩
 all_goals
  rw [h2]
  clear h2
  go_enter Tryz.func288,Tryz.ntmps288
  go_wp2
  go_ret
  exact ⟨rfl,rfl⟩
end Go.Proofs.YtngnfdnfpiiclaaGreat
namespace Go.Proofs.YtngnfdnfpiiclaaGreat
open Go.RowKit
def cameF (ah:Int→Int) (p:Int) (i:Nat) (c:Int):Bool:=c==0 || (List.range i).any fun j=>itr ah j p==c
theorem cameF_iff {ah:Int→Int} {p:Int} {i:Nat} {c:Int}:cameF ah p i c=true↔c=0∨∃ j,j<i∧itr ah j p=c:=by
 unfold cameF
 simp
theorem cameF_next (ah:Int→Int) (p:Int) (i:Nat):(fun q=>if q=itr ah i p then true else cameF ah p i q)=cameF ah p (i + 1):=by
 funext q
 by_cases h:q=itr ah i p
 ·rw [if_pos h]
  exact (cameF_iff.2 (.inr ⟨i,by omega,h.symm⟩)).symm
 ·rw [if_neg h]
  apply Bool.eq_iff_iff.2
  rw [cameF_iff,cameF_iff]
  constructor
  ·rintro (h1 | ⟨j,h1,h2⟩)
   ·exact .inl h1
   ·exact .inr ⟨j,by omega,h2⟩
  ·rintro (h1 | ⟨j,h1,h2⟩)
   ·exact .inl h1
   ·by_cases e:j=i
    ·subst e; exact absurd h2.symm h
    ·exact .inr ⟨j,by omega,h2⟩
theorem inA_form (b:Int→Bool):inA b=#[.bool (b 0),.bool (b 1),.bool (b 2),.bool (b 3),.bool (b 4),.bool (b 5),.bool (b 6),.bool (b 7),.bool (b 8),.bool (b 9),.bool (b 10),.bool (b 11),.bool (b 12),.bool (b 13),.bool (b 14),.bool (b 15),.bool (b 16)]:=by
 apply Array.ext (by rw [inA_size]; rfl)
 intro i h1 h2
 have h17:i<17:=by rw [inA_size] at h1; exact h1
 have:=inA_get b h17
 rw [Array.getElem?_eq_getElem h1] at this
 simp only [Option.some.injEq] at this
 rw [this]
 have hi:i=0∨i=1∨i=2∨i=3∨i=4∨i=5∨i=6∨i=7∨i=8∨i=9∨i=10∨i=11∨i=12∨i=13∨i=14∨i=15∨i=16:=by omega
 rcases hi with rfl | rfl | rfl | rfl | rfl | rfl | rfl | rfl | rfl | rfl | rfl | rfl | rfl | rfl | rfl | rfl | rfl <;> rfl
theorem build_came (ah:Int→Int) (p:Int) (w:World):(Instr.build 153 #[(0,.bool true)]).run Tryz.prog w=.ok (.agg (inA (cameF ah p 0))) w:=by
 rw [inA_form]
 show _=Result.ok (Value.agg #[.bool true,.bool false,.bool false,.bool false,.bool false,.bool false,.bool false,.bool false,.bool false,.bool false,.bool false,.bool false,.bool false,.bool false,.bool false,.bool false,.bool false]) w
 kernel_rfl
theorem zero_inP:(∀ w,(zeroValue 153).run Tryz.prog w=.ok (.agg (inA fun _=>false)) w)∧(Tryz.prog.info? 153).map (·.size)=some 17:=by
 rw [inA_form]
 exact zero_of_info (by kernel_rfl)
theorem info_inP (b:Int→Bool):(Tryz.prog.info? 153).map (·.size)=some (inA b).size:=by rw [inA_size]; exact zero_inP.2
def sLen:Value→Nat
 | .slice _ k _=>k
 | _=>0
theorem sLen_slice (a:Option Addr) (n c:Nat):sLen (.slice a n c)=n:=rfl
def TurnAt (w:World) (ah:Int→Int) (p:Int) (n:Nat) (pv lv:Value) (wr:World):Prop :=
 ∃ i:Nat,i≤n∧pv=.int .u8 (itr ah i p)∧wr.ownsRow w.heap.size 68 1 lv ((List.range i).map fun j=>itr ah j p).length (((List.range i).map fun j=>itr ah j p).map (.int .u8))∧Blk wr w.heap.size (inA (cameF ah p i)) 153∧Below w.heap.size w wr
set_option maxHeartbeats 8000000 in
set_option maxRecDepth 100000 in
theorem turned_any {w:World} {g off:Nat} {ah:Int→Int} {p:Int} {n:Nat} (hg:g<w.heap.size) (hcell:∀ c:Nat,c<17→w.cell? ⟨g,off + c,none⟩=some (.int .u8 (ah c)))
  (hn:∀ i,i<n→inP (itr ah i p)) (hd:∀ i j,i<j→j<n→itr ah i p≠itr ah j p) (he:itr ah n p=0∨∃ i,i<n∧itr ah i p=itr ah n p) (h1:1≤n) (h16:n≤16) :
  Calls Tryz.prog 290 #[.pointer (some ⟨g,off,none⟩),.int .u8 p] w (RowPost 68 (chainL ah p n) w):=by
 have HC:=Lib.hid hcell
 have HN:=Lib.hid hn
 have HD:=Lib.hid hd
 have HE:=Lib.hid (cameF_iff.2 (he.imp id (fun ⟨i,h1,h2⟩=>⟨i,h1,h2⟩)))
 have hz:=zero_inP.1
 have Z:=Lib.hid (Blk.new w (inA fun _=>false) 153)
 have E1:=World.setRow_alloc_new w (inA fun _=>false) (inA (cameF ah p 0)) 153
 have B1:=Lib.hid ((Below.refl w.heap.size w).alloc (Nat.le_refl _) (.cells (inA (cameF ah p 0)) 153))
 have K1:=Lib.hid (Blk.new w (inA (cameF ah p 0)) 153)
 clear hcell hn hd he
 go_enter Tryz.func290,Tryz.ntmps290
 go_wp2_with first
  | (refine wpList_build_of ?_ 153 #[(0,.const (.bool true))] ?_ #[(0,.bool true)] ?_ (inA (cameF ah p 0)) (build_came ah p _) ?_; exact rfl; exact rfl; simp [Act.eval])
  | ((with_reducible refine wpList_store_row ?_ 153 (.tmp 6) (.tmp 7) ?_ w.heap.size (inA (cameF ah p 0)) ?_ ?_ 153 _ Z.out.out (info_inP _) (by simp only [inA_size]) (inA_one _) ?_); exact rfl; exact rfl; exact rfl; exact rfl; rw [E1])
 generalize hW:w.alloc (.cells (inA (cameF ah p 0)) 153)=W1 at *
 clear hW hz E1 Z
 simp only [Act.put]
 go_loopw [1,5] (TurnAt w ah p n) (fun _ l _=>n - sLen l)
 case atStart=>exact ⟨0,by omega,rfl,World.ownsRow_nil _ _ _ _,K1.out,B1.out⟩
 case round =>
  clear K1 B1
  obtain ⟨i,hi,rfl,hown,hK,hB⟩:=hrel
  have O1:=Lib.hid hown
  have K1:=Lib.hid hK
  have B1:=Lib.hid hB
  clear hown hK hB
  have hgr:=Nat.lt_of_lt_of_le hg B1.out.size
  have hkl:=K1.out.lt
  by_cases hin:i<n
  ·have hx:=HN.out i hin
   have NX:=Lib.hid (cameF_next ah p i)
   have IS:=Lib.hid (itr_succ ah i p)
   have LS:Hid (((List.range (i + 1)).map fun j=>itr ah j p)=((List.range i).map fun j=>itr ah j p)++[itr ah i p]):=Lib.hid (by rw [List.range_succ,List.map_append]; rfl)
   have hc0:cameF ah p i (itr ah i p)=false:=by
    cases hc:cameF ah p i (itr ah i p) with
    | false=>rfl
    | true =>
     rcases cameF_iff.1 hc with q | ⟨j,q1,q2⟩
     ·unfold inP at hx; omega
     ·exact absurd q2 (HD.out j i q1 hin)
   have LL:Hid (((List.range i).map fun j=>itr ah j p).length=i):=Lib.hid (by simp)
   generalize ((List.range i).map fun j=>itr ah j p)=L at *
   generalize itr ah i p=x at *
   obtain ⟨x1,x2⟩:=hx
   have dk:=K1.out.inAt (p:=x) (by omega) (by omega)
   have fk:=K1.out.frozen x.toNat
   rw [hc0] at dk
   have K2:=Lib.hid (K1.out.inSet (p:=x) (by omega) (by omega) true)
   rw [NX.out] at K2
   have B2:=Lib.hid (B1.out.setCell (p:=⟨w.heap.size,x.toNat,none⟩) (Nat.le_refl _) (.bool true))
   have O2:=Lib.hid (owns_keep (S:=fun b=>b=w.heap.size) O1.out ((Keep.refl (fun b=>b=w.heap.size) wr).setCell (p:=⟨w.heap.size,x.toNat,none⟩) (.inl rfl) (.bool true)) (owns_ne O1.out K1.out (by decide)))
   have O1':=Lib.hid O1.out
   clear hc0 O1
   have hll:L.length≤16:=by rw [LL.out]; omega
   go_wp2_with (at_builtin; refine wpList_append_party _ rfl (.tmp 19) (.tmp 21) rfl w.heap.size _ L rfl (O2.out.alloc _) _ _ x rfl (Blk.newAt _ _ _ (by simp)) (by omega) (by simp; have:=B2.out.size; simp at this; omega) ?_)
   intro v3 w3 hown3 hgr3
   have R2:∀ k,Value.ownBlock _=some k→w.heap.size≤k:=fun k hk=>(owns_type O2.out hk).1
   have B3:=Lib.hid ((B2.out.alloc B2.out.size _).grown hgr3 (by simp; have:=B2.out.size; simp at this; omega) (fun k hk=>R2 k hk))
   have K3:Hid (Blk w3 w.heap.size (inA (cameF ah p (i + 1))) 153):=Lib.hid ((hgr3.block w.heap.size (by simp; omega) (fun e=>owns_ne O2.out K2.out (by decide) _ e.symm rfl)).trans (K2.out.alloc _).out)
   have O3:=Lib.hid (show w3.ownsRow w.heap.size 68 1 v3 (L++[x]).length ((L++[x]).map (.int .u8)) by simpa using hown3)
   have dl:w3.cell? ⟨g,off + x.toNat,none⟩=some (.int .u8 (ah x)):=by
    rw [B3.out.cell (p:=⟨g,off + x.toNat,none⟩) hg,HC.out x.toNat (by omega),Int.toNat_of_nonneg (by omega)]
   have hg3:=Nat.lt_of_lt_of_le hg B3.out.size
   clear R2 hown3 hgr3 K2 B2 O2 K1 B1 dk fk
   obtain ⟨ao3,c3,hv3,_⟩:=owns_open O3.out
   subst hv3
   go_wp2_with fail
   go_roundw
   case rel=>exact ⟨i + 1,by omega,by rw [IS.out],by rw [LS.out]; exact O3.out,K3.out,B3.out⟩
   case measure =>
    obtain ⟨ao,cc,rfl,_⟩:=owns_open O1'.out
    have hLL:=LL.out
    simp [sLen_slice,List.length_append]
    omega
  ·obtain rfl:i=n:=by omega
   have hxr:0≤itr ah i p∧itr ah i p<17:=by
    rcases cameF_iff.1 HE.out with q | ⟨j,q1,q2⟩
    ·omega
    ·have:=HN.out j q1
     unfold inP at this
     omega
   have CL:Hid ((((List.range i).map fun j=>itr ah j p)).reverse=chainL ah p i):=Lib.hid rfl
   have LL:Hid (((List.range i).map fun j=>itr ah j p).length=i):=Lib.hid (by simp)
   have CR:=Lib.hid (rev_any O1.out (by rw [LL.out]; omega) (by rw [LL.out]; omega))
   rw [CL.out] at CR
   have HEi:=HE.out
   generalize ((List.range i).map fun j=>itr ah j p)=L at *
   generalize itr ah i p=x at *
   have dk:=K1.out.inAt (p:=x) (by omega) (by omega)
   rw [HEi] at dk
   obtain ⟨x1,x2⟩:=hxr
   obtain ⟨ao3,c3,hv3,_⟩:=owns_open O1.out
   subst hv3
   clear HEi
   go_wp2_with fail
   refine CR.out.mono ?_
   rintro e w4 ⟨rfl,hown,hb⟩
   have B4:=Lib.hid (B1.out.trans hb)
   have e6:(chainL ah p i).length=L.length:=by rw [chainL_len,LL.out]
   have O4:=Lib.hid (show w4.ownsRow w.heap.size 68 1 (.slice ao3 L.length c3) (chainL ah p i).length ((chainL ah p i).map (.int .u8)) by rw [e6]; exact hown)
   have CC:=Lib.hid (clipY_any O4.out)
   rw [e6] at CC
   have E6:=Lib.hid e6
   clear hown hb CR e6
   go_wp2_with fail
   refine CC.out.mono ?_
   rintro e w5 ⟨v',rfl,hrow,_,rfl⟩
   have HRow:=Lib.hid hrow
   clear hrow CC
   go_wp2_with fail
   refine bodyPost_ret (v:=v') (by simp [results,Tryz.results290,go_sem]) rfl ?_
   exact ⟨v',rfl,by rw [E6.out]; exact HRow.out,B4.out⟩
end Go.Proofs.YtngnfdnfpiiclaaGreat
namespace Go.Proofs.YtngnfdnfpiiclaaGreat
open Go.RowKit
def Que (w:World) (base:Nat) (e:TypeId) (v:Value) (l:List Int):Prop :=
 ∃ (g off cap:Nat) (cur:Array Value),v=.slice (some ⟨g,off,none⟩) l.length cap∧base≤g∧Blk w g cur e∧l.length≤cap∧cap≤maxLen∧off + cap≤cur.size∧∀ j (hj:j<l.length),cur[off + j]? = some (.int .u8 l[j])
theorem Que.keep {S:Nat→Prop} {w w':World} {base:Nat} {e:TypeId} {v:Value} {l:List Int} (h:Que w base e v l) (k:Keep S w w') (hs:∀ b,v.ownBlock=some b→¬ S b):Que w' base e v l:=by
 obtain ⟨g,off,cap,cur,rfl,hb,hg,hr⟩:=h
 exact ⟨g,off,cap,cur,rfl,hb,(k.block g hg.lt (hs g rfl)).trans hg,hr⟩
theorem Que.below {w w':World} {base:Nat} {e:TypeId} {v:Value} {l:List Int} (h:Que w base e v l) (k:Below w.heap.size w w'):Que w' base e v l :=
 h.keep (Keep.of_below (S:=fun _=>False) k) (fun _ _=>id)
theorem Que.alloc {w:World} {base:Nat} {e:TypeId} {v:Value} {l:List Int} (h:Que w base e v l) (o:Obj):Que (w.alloc o) base e v l :=
 h.below ((Below.refl w.heap.size w).alloc (Nat.le_refl _) o)
theorem Que.type {w:World} {base:Nat} {e:TypeId} {v:Value} {l:List Int} (h:Que w base e v l) {b:Nat} (hb:v.ownBlock=some b):base≤b∧b<w.heap.size∧∃ cur,Blk w b cur e:=by
 obtain ⟨g,off,cap,cur,rfl,hge,hg,_⟩:=h
 cases hb
 exact ⟨hge,hg.lt,cur,hg⟩
theorem Que.ne {w:World} {base:Nat} {e:TypeId} {v:Value} {l:List Int} (h:Que w base e v l) {g:Nat} {cs:Array Value} {t:TypeId} (hg:Blk w g cs t) (hne:e≠t):∀ b,v.ownBlock=some b→¬ b=g:=by
 intro b hb e'
 obtain ⟨_,_,cur,hc⟩:=h.type hb
 subst e'
 have:=hc.symm.trans hg
 simp only [Option.some.injEq,Obj.cells.injEq] at this
 exact hne this.2.1
theorem Que.shape {w:World} {base:Nat} {e:TypeId} {v:Value} {l:List Int} (h:Que w base e v l) :
  ∃ (g off cap:Nat),v=.slice (some ⟨g,off,none⟩) l.length cap∧l.length≤cap∧cap≤maxLen∧g<w.heap.size∧base≤g∧∀ j (hj:j<l.length),w.cell? ⟨g,off + j,none⟩=some (.int .u8 l[j]):=by
 obtain ⟨g,off,cap,cur,rfl,hb,hg,h1,h2,h3,h4⟩:=h
 exact ⟨g,off,cap,rfl,h1,h2,hg.lt,hb,fun j hj=>by rw [hg.cell]; exact h4 j hj⟩
theorem Que.one {w:World} {base:Nat} {e:TypeId} {x:Int} (hb:base≤w.heap.size):Que (w.alloc (.cells #[.int .u8 x] e)) base e (.slice (some ⟨w.heap.size,0,none⟩) 1 1) [x] :=
 ⟨w.heap.size,0,1,_,rfl,hb,Blk.new _ _ _,Nat.le_refl _,by unfold maxLen; decide,by simp,fun j hj=>by
  have:j=0:=by simpa using hj
  subst this; rfl⟩
def nextA (g off cap:Nat):Addr:=if cap=1 then ⟨g,off,none⟩ else ⟨g,off + 1,none⟩
theorem run_next {P:Program} (w:World) (t e:TypeId) (ht:P.underlying t=some (.slice e)) (hs:(sizeOf e).run P w=.ok 1 w) (g off n cap:Nat) (h1:1≤n) (h:n≤cap) :
  (Instr.sliceAt t (.slice (some ⟨g,off,none⟩) n cap) (some (.int .i64 1)) none none).run P w=.ok (.slice (some (nextA g off cap)) (n - 1) (cap - 1)) w:=by
 have hb:(Instr.sliceBound (.int .i64 1) n .sliceB).run P w=.ok 1 w:=by
  have hn:(0:Int)≤1∧(1:Int)≤(n:Int):=⟨by decide,by omega⟩
  simp [Instr.sliceBound,asIntOf,hn,go_sem]
 by_cases hc:cap=1
 ·simp [Instr.sliceAt,Instr.slice,run_underlying ht,Instr.sliceBounds,hb,hs,Result.andThen,nextA,hc]
 ·simp [Instr.sliceAt,Instr.slice,run_underlying ht,Instr.sliceBounds,hb,hs,Result.andThen,nextA,hc,Addr.add]
theorem Que.next {w:World} {base:Nat} {e:TypeId} {x:Int} {l:List Int} {g off cap:Nat} (h:Que w base e (.slice (some ⟨g,off,none⟩) (l.length + 1) cap) (x::l)) :
  Que w base e (.slice (some (nextA g off cap)) l.length (cap - 1)) l:=by
 obtain ⟨g',off',cap',cur,he,hb,hg,h1,h2,h3,h4⟩:=h
 simp only [Value.slice.injEq,Option.some.injEq,Addr.mk.injEq] at he
 obtain ⟨⟨rfl,rfl,_⟩,_,rfl⟩:=he
 simp only [List.length_cons] at h1 h4
 unfold nextA
 by_cases hc:cap=1
 ·have hl:l=[]:=List.eq_nil_of_length_eq_zero (by omega)
  subst hl
  rw [if_pos hc]
  exact ⟨g,off,cap - 1,cur,rfl,hb,hg,by simp,by omega,by omega,fun j hj=>by simp at hj⟩
 ·rw [if_neg hc]
  refine ⟨g,off + 1,cap - 1,cur,rfl,hb,hg,by omega,by omega,by omega,fun j hj=>?_⟩
  have:=h4 (j + 1) (by omega)
  rw [show off + 1 + j=off + (j + 1) by omega,this]
  rfl
theorem wpList_append_que (w:World) {ops:Array Oper} {rest:List Oper} {o:Oper} {a:Act} {Q:Exit→Act→World→Prop} (hgd:o.guard=none) (s x:Operand)
  (ho:o.op=.call { callee:=.builtin .append,args:=#[s,x],argTypes:=#[41,41] }) (base:Nat) (v:Value) (l:List Int) (hs:a.eval s=v)
  (hq:Que w base 68 v l) (g2 c:Nat) (y:Int) (hx:a.eval x=.slice (some ⟨g2,0,none⟩) 1 c) (hy:Blk w g2 #[.int .u8 y] 68) (hlen:l.length≤100000) (hbase:base≤w.heap.size)
  (h:∀ v' w',Que w' base 68 v' (l++[y])→w.grownBy w' v.ownBlock→wpList Tryz.prog ops Q rest (a.put o.dst v') w'):wpList Tryz.prog ops Q (o::rest) a w:=by
 obtain ⟨i0,hi,hz0,hz1,hz2⟩:=info_parts info_party
 obtain ⟨g,off,cap,cur,rfl,hb,hg,h1,h2,h3,h4⟩:=hq
 have hnews:∀ j u,([.int .u8 y]:List Value)[j]? = some u→w.cell? ((⟨g2,0,none⟩:Addr).add j)=some u:=by
  intro j u hj
  have:=hy.cell j
  rw [Go.WideShapes.add_plain,Nat.zero_add]
  match j,hj with
  | 0,hj=>simp at hj; subst hj; simpa using this
  | j + 1,hj=>simp at hj
 have key:∃ v' w',(Builtin.append_ #[41,41] o.type #[.slice (some ⟨g,off,none⟩) l.length cap,.slice (some ⟨g2,0,none⟩) 1 c]).run Tryz.prog w=.ok v' w'∧Que w' base 68 v' (l++[y])∧w.grownBy w' (some g):=by
  by_cases hroom:l.length + 1≤cap
  ·have hsrc:Src Tryz.prog i0.size 41 (.slice (some ⟨g2,0,none⟩) 1 c) 1 [.int .u8 y] w:=Src.ofSlice w Tryz.underlying41 ⟨g2,0,none⟩ 1 c [.int .u8 y] (by simp [hz1]) hnews (by simp [Value.oneCell'])
   have hr:=run_append_room_src (P:=Tryz.prog) w 41 41 o.type 68 i0 Tryz.underlying41 hi g off l.length cap (.slice (some ⟨g2,0,none⟩) 1 c) 1 [.int .u8 y] hsrc hroom (fun j hj=>by
    rw [hg.cell,hz1]
    simp at hj
    rw [Array.getElem?_eq_getElem (by omega)]
    rfl) (fun j hj=>hg.frozen _)
   rw [hz1,Nat.mul_one] at hr
   refine ⟨_,_,hr,?_,?_⟩
   ·have hset:w.setCells g (off + l.length) [.int .u8 y]=w.setCell ⟨g,off + l.length,none⟩ (.int .u8 y):=rfl
    rw [hset]
    refine ⟨g,off,cap,_,by simp,hb,hg.set (off + l.length) (.int .u8 y),by simp; omega,h2,by simpa using h3,fun j hj=>?_⟩
    by_cases e:j=l.length
    ·subst e
     rw [Array.getElem?_setIfInBounds_self_of_lt (by omega)]
     simp
    ·simp at hj
     rw [Array.getElem?_setIfInBounds_ne (by omega),h4 j (by omega),List.getElem_append_left (by omega)]
   ·have hset:w.setCells g (off + l.length) [.int .u8 y]=w.setCell ⟨g,off + l.length,none⟩ (.int .u8 y):=rfl
    rw [hset]
    exact ⟨rfl,rfl,rfl,by simp,fun k hk hne=>Below.heap_setCell w _ _ k (fun e=>hne (by rw [e]))⟩
  ·have hlc:l.length=cap:=by omega
   have hr:=run_append_grow (P:=Tryz.prog) w 41 o.type 68 i0 (.int .u8 0) Tryz.underlying41 hi hz0 ⟨g,off,none⟩ l.length cap (l.map (.int .u8)) (by simp [hz1]) (fun j u hj=>by
    rw [List.getElem?_map] at hj
    obtain ⟨q,hq,rfl⟩:=Option.map_eq_some_iff.1 hj
    obtain ⟨hjl,hq⟩:=List.getElem?_eq_some_iff.1 hq
    subst hq
    rw [Addr.add_mid,hg.cell]
    exact h4 j hjl) ⟨g2,0,none⟩ 1 c [.int .u8 y] (by simp [hz1]) hnews (by omega) (by omega) (growslice_fits (by omega) (by rw [hz2]; omega))
   have hge:=grownCap_ge w (l.length + 1) cap 68
   have hle:=grownCap_le_maxLen w (l.length + 1) cap 68 (by unfold maxLen; omega)
   refine ⟨_,_,hr,?_,⟨rfl,rfl,rfl,by simp,fun k hk _=>heap_alloc_old w.drew _ hk⟩⟩
   refine ⟨w.heap.size,0,_,_,by simp,hbase,Blk.new w.drew _ _,by simpa using hge,hle,?_,fun j hj=>?_⟩
   ·simp [size_zeroCells,show (Value.int IntKind.u8 0).cells.size=1 from rfl]
    omega
   ·simp only [List.length_append,List.length_cons,List.length_nil] at hj
    rw [Nat.zero_add,Array.getElem?_append_left (by simp; omega)]
    by_cases e:j=l.length
    ·subst e
     simp
    ·rw [Array.getElem?_append_left (by simp; omega)]
     simp
     rw [List.getElem?_eq_getElem (by omega),List.getElem_append_left (by omega)]
     try rfl
 obtain ⟨v',w',hr,k1,k2⟩:=key
 refine wpList_plain hgd fun K hK=>?_
 unfold Oper.wp execOp
 simp only [ho,resolve,invoke,builtin,Sem.run_bind,Sem.run_pure,Result.andThen_ok,List.map_toArray,List.map_cons,List.map_nil,hs,hx,hr]
 exact hK _ _ (h v' w' k1 k2)
end Go.Proofs.YtngnfdnfpiiclaaGreat
namespace Go.Proofs.YtngnfdnfpiiclaaGreat
open Go.RowKit
theorem ahA_form (b:Int→Int):ahA b=#[.int .u8 (b 0),.int .u8 (b 1),.int .u8 (b 2),.int .u8 (b 3),.int .u8 (b 4),.int .u8 (b 5),.int .u8 (b 6),.int .u8 (b 7),.int .u8 (b 8),.int .u8 (b 9),.int .u8 (b 10),.int .u8 (b 11),.int .u8 (b 12),.int .u8 (b 13),.int .u8 (b 14),.int .u8 (b 15),.int .u8 (b 16)]:=by
 apply Array.ext (by rw [ahA_size]; rfl)
 intro i h1 h2
 have h17:i<17:=by rw [ahA_size] at h1; exact h1
 have:=ahA_get b h17
 rw [Array.getElem?_eq_getElem h1] at this
 simp only [Option.some.injEq] at this
 rw [this]
 have hi:i=0∨i=1∨i=2∨i=3∨i=4∨i=5∨i=6∨i=7∨i=8∨i=9∨i=10∨i=11∨i=12∨i=13∨i=14∨i=15∨i=16:=by omega
 rcases hi with rfl | rfl | rfl | rfl | rfl | rfl | rfl | rfl | rfl | rfl | rfl | rfl | rfl | rfl | rfl | rfl | rfl <;> rfl
theorem zero_links:(∀ w,(zeroValue 387).run Tryz.prog w=.ok (.agg (ahA fun _=>0)) w)∧(Tryz.prog.info? 387).map (·.size)=some 17:=by
 rw [ahA_form]
 exact zero_of_info (by kernel_rfl)
theorem info_links (b:Int→Int):(Tryz.prog.info? 387).map (·.size)=some (ahA b).size:=by rw [ahA_size]; exact zero_links.2
theorem ahA_one (b:Int→Int):(ahA b).all (·.oneCell')=true:=by
 rw [Array.all_eq_true]
 intro i hi
 have h17:i<17:=by rw [ahA_size] at hi; exact hi
 have:=ahA_get b h17
 rw [Array.getElem?_eq_getElem hi] at this
 simp only [Option.some.injEq] at this
 rw [this]
 rfl
theorem gcapI {w:World} {v:Value} {f:Int→Int→Int} (h:IsG w v f) (ho:outF f) (p q:Int) :
  Calls Tryz.prog 261 #[v,.int .u8 p,.int .u8 q] w fun e w'=>e=.returned (.int .i64 (f p q))∧w=w':=by
 rcases h with ⟨rfl,rfl⟩ | ⟨g,b,rfl,h2⟩
 ·exact gcap_nil p q w
 ·exact gcap_any h2 ho p q
def SprAt (w:World) (f:Int→Int→Int) (a:Int) (m:Nat) (v:Value) (wr:World):Prop :=
 ∃ (x:Nat→Int) (pa:Nat→Nat) (n:Nat) (b:Int→Bool) (ah:Int→Int) (k:Nat),BfsI f a x pa n b ah k 1∧k≤n∧k + m=17∧Que wr w.heap.size 68 v (qL x k n) ∧
  Blk wr w.heap.size (ahA fun _=>0) 387∧Blk wr (w.heap.size + 1) (ahA ah) 387∧Blk wr (w.heap.size + 1 + 1) (inA b) 153∧Below w.heap.size w wr
def SprIn (w:World) (f:Int→Int→Int) (a:Int) (k:Nat) (v i:Value) (wr:World):Prop :=
 ∃ (x:Nat→Int) (pa:Nat→Nat) (n:Nat) (b:Int→Bool) (ah:Int→Int) (c:Int),BfsI f a x pa n b ah k c∧k<n∧1≤c∧c≤17∧i=.int .u8 c∧Que wr w.heap.size 68 v (qL x k n) ∧
  Blk wr w.heap.size (ahA fun _=>0) 387∧Blk wr (w.heap.size + 1) (ahA ah) 387∧Blk wr (w.heap.size + 1 + 1) (inA b) 153∧Below w.heap.size w wr
def SpreadPost (f:Int→Int→Int) (a:Int) (w:World) (e:Ending) (w':World):Prop :=
 ∃ (b:Int→Bool) (pos:Int→Nat) (ah:Int→Int),e=.returned (.agg (ahA ah))∧Spr f a (fun p=>b p=true) pos ah∧ah a=0∧(∀ p,b p=false→ah p=0)∧Below w.heap.size w w'
set_option maxHeartbeats 8000000 in
set_option maxRecDepth 100000 in
theorem spread_any {w:World} {v:Value} {f:Int→Int→Int} {a:Int} (h:IsG w v f) (hI:GInv f 4398046511104) (ha:inP a) :
  Calls Tryz.prog 289 #[v,.int .u8 a] w (SpreadPost f a w):=by
 have H:=Lib.hid h
 have HI:=Lib.hid hI
 have HA:=Lib.hid ha
 have hz1:=zero_links.1
 have hz2:=zero_inP.1
 clear h hI
 obtain ⟨a1,a2⟩:=ha
 have hin0:(inA fun _=>false).setIfInBounds a.toNat (.bool true)=inA (fun q=>if q=a then true else false):=by rw [inA_set _ (by omega),Int.toNat_of_nonneg (by omega)]
 have k2:=Blk.newAt ((w.alloc (.cells (ahA fun _=>0) 387)).alloc (.cells (ahA fun _=>0) 387)) (inA fun _=>false) 153 (g:=w.heap.size + 1 + 1) (by simp)
 have dk:=k2.inAt (p:=a) (by omega) (by omega)
 have fk:=k2.frozen a.toNat
 obtain ⟨b0,hb0⟩:∃ b0:Int→Bool,b0=fun q=>if q=a then true else false:=⟨_,rfl⟩
 rw [← hb0] at hin0
 have hs4:(((w.alloc (.cells (ahA fun _=>0) 387)).alloc (.cells (ahA fun _=>0) 387)).alloc (.cells (inA b0) 153)).heap.size=w.heap.size + 1 + 1 + 1:=by simp
 have K0:=Lib.hid ((((Blk.new w (ahA fun _=>0) 387).alloc (.cells (ahA fun _=>0) 387)).alloc (.cells (inA b0) 153)).alloc (.cells #[.int .u8 a] 68))
 have K1:=Lib.hid (((Blk.newAt (w.alloc (.cells (ahA fun _=>0) 387)) (ahA fun _=>0) 387 (g:=w.heap.size + 1) (by simp)).alloc (.cells (inA b0) 153)).alloc (.cells #[.int .u8 a] 68))
 have K2:=Lib.hid ((Blk.newAt ((w.alloc (.cells (ahA fun _=>0) 387)).alloc (.cells (ahA fun _=>0) 387)) (inA b0) 153 (g:=w.heap.size + 1 + 1) (by simp)).alloc (.cells #[.int .u8 a] 68))
 have q0:=Que.one (w:=(((w.alloc (.cells (ahA fun _=>0) 387)).alloc (.cells (ahA fun _=>0) 387)).alloc (.cells (inA b0) 153))) (base:=w.heap.size) (e:=68) (x:=a) (by rw [hs4]; omega)
 rw [hs4] at q0
 have Q0:=Lib.hid q0
 have B0:=Lib.hid (((((Below.refl w.heap.size w).alloc (Nat.le_refl _) (.cells (ahA fun _=>0) 387)).alloc (by simp) (.cells (ahA fun _=>0) 387)).alloc (by simp; omega) (.cells (inA b0) 153)).alloc (by rw [hs4]; omega) (.cells #[.int .u8 a] 68))
 have S0:=Lib.hid (hb0 ▸ BfsI.start f HA.out HI.out:BfsI f a (fun _=>a) (fun _=>0) 1 b0 (fun _=>0) 0 1)
 clear q0 hs4 hb0
 go_enter Tryz.func289,Tryz.ntmps289
 go_wp2_with fail
 try rw [hin0]
 generalize (((w.alloc (.cells (ahA fun _=>0) 387)).alloc (.cells (ahA fun _=>0) 387)).alloc (.cells (inA b0) 153)).alloc (.cells #[.int .u8 a] 68)=W at *
 clear dk fk k2 hin0 hz1 hz2
 go_loopg [7] 17 (fun m v wr=>SprAt w f a m v wr)
 case atStart=>exact ⟨fun _=>a,fun _=>0,1,b0,fun _=>0,0,S0.out,by omega,by omega,Q0.out,K0.out,K1.out,K2.out,B0.out⟩
 case round =>
  obtain ⟨x,pa,n,b,ah,k,hS,hkn,hkm,hq,h0,h1,h2,hb⟩:=hrel
  have S1:=Lib.hid hS
  have Q1:=Lib.hid hq
  have R0:=Lib.hid h0
  have R1:=Lib.hid h1
  have R2:=Lib.hid h2
  have B1:=Lib.hid hb
  clear hS hq h0 h1 h2 hb K0 K1 K2 Q0 B0 S0
  obtain ⟨g,off,cap,hv,c1,c2,c3,c4,c5⟩:=Q1.out.shape
  subst hv
  obtain ⟨N,hN⟩:∃ N,(qL x k n).length=N:=⟨_,rfl⟩
  have hNk:=qL_len x k n
  rw [hN] at c1 hNk ⊢
  have HN:=Lib.hid hN
  have hn16:=S1.out.len
  by_cases hlt:k<n
  ·have hN0:0<N:=by omega
   clear c5 hN hNk
   go_wp2_with fail
   go_loopw [7,8] (SprIn w f a k) (fun _ i _=>17 - (intOf i).toNat)
   case atStart=>exact ⟨x,pa,n,b,ah,1,S1.out,hlt,by omega,by omega,rfl,HN.out ▸ Q1.out,R0.out,R1.out,R2.out,B1.out⟩
   case round =>
    clear R0 R1 R2 B1 S1 Q1 HN c1 c2 c3 c4 hlt hN0 hn16 hkn
    obtain ⟨x,pa,n,b,ah,c,hS,hkn,hc1,hc2,rfl,hq,h0,h1,h2,hb⟩:=hrel
    have S1:=Lib.hid hS
    have Q1:=Lib.hid hq
    have R0:=Lib.hid h0
    have R1:=Lib.hid h1
    have R2:=Lib.hid h2
    have B1:=Lib.hid hb
    clear hS hq h0 h1 h2 hb
    obtain ⟨g,off,cap,hv,c1,c2,c3,c4,c5⟩:=Q1.out.shape
    subst hv
    have hx0:(qL x k n)[0]? = some (x k):=by rw [qL_head x hkn]; rfl
    obtain ⟨N,hN⟩:∃ N,(qL x k n).length=N:=⟨_,rfl⟩
    have hNk:=qL_len x k n
    have hN0:0<N:=by omega
    have ch:=c5 0 (by omega)
    rw [Nat.add_zero,show (qL x k n)[0]=x k by rw [List.getElem?_eq_getElem (by omega)] at hx0; simpa using hx0] at ch
    rw [hN] at c1 hNk ⊢
    have HN:=Lib.hid hN
    have hn16:=S1.out.len
    have hNn:=Lib.hid hNk
    unfold maxLen at c2
    have l1:=R1.out.lt
    have l2:=R2.out.lt
    clear c5 hN hx0 hNk
    by_cases hc:c≤16
    ·have dk:=R2.out.inAt (p:=c) (by omega) (by omega)
     have fk:=R2.out.frozen c.toNat
     cases hbc:b c with
     | true =>
      rw [hbc] at dk
      have S2:=Lib.hid (S1.out.skip hkn (.inl hbc))
      clear hbc fk ch
      go_wp2_with fail
      go_roundw
      case rel=>exact ⟨x,pa,n,b,ah,c + 1,S2.out,hkn,by omega,by omega,by go_num,HN.out ▸ Q1.out,R0.out,R1.out,R2.out,B1.out⟩
      case measure=>simp [intOf]; omega
     | false =>
      rw [hbc] at dk
      have CC:=Lib.hid (gcapI (H.out.below B1.out) HI.out.outF (x k) c)
      by_cases hpos:0<f (x k) c
      ·have S2:=Lib.hid (S1.out.add hkn hbc hpos ⟨by omega,by omega⟩)
       have QA:=Lib.hid (qL_add x (k:=k) (n:=n) (by omega) c)
       generalize f (x k) c=y at *
       have q1:decide (0<y)=true:=by simpa using hpos
       generalize hxk:x k=xk at *
       have hg2:¬ g=w.heap.size + 1 + 1:=Q1.out.ne R2.out (by decide) g rfl
       have hg1:¬ g=w.heap.size + 1:=Q1.out.ne R1.out (by decide) g rfl
       have kp2:Keep (fun i=>i=w.heap.size + 1 + 1) wr (wr.setCell ⟨w.heap.size + 1 + 1,c.toNat,none⟩ (.bool true)):=(Keep.refl (fun i=>i=w.heap.size + 1 + 1) wr).setCell (p:=⟨w.heap.size + 1 + 1,c.toNat,none⟩) (.inl rfl) (.bool true)
       have Q2:=Lib.hid (Q1.out.keep kp2 (fun i h e=>by cases h; exact hg2 e))
       have P0:=Lib.hid (R0.out.setOther (a:=⟨w.heap.size + 1 + 1,c.toNat,none⟩) (by simp; omega) (.bool true))
       have P1:=Lib.hid (R1.out.setOther (a:=⟨w.heap.size + 1 + 1,c.toNat,none⟩) (by simp) (.bool true))
       have P2:=Lib.hid (R2.out.inSet (p:=c) (by omega) (by omega) true)
       have PB:=Lib.hid (B1.out.setCell (p:=⟨w.heap.size + 1 + 1,c.toNat,none⟩) (by simp; omega) (.bool true))
       have ch1:=kp2.cell (p:=⟨g,off,none⟩) c3 hg2
       rw [ch] at ch1
       have d1:=P1.out.ahAt (p:=c) (by omega) (by omega)
       have f1:=P1.out.frozen c.toNat
       have kp1:Keep (fun i=>i=w.heap.size + 1) (wr.setCell ⟨w.heap.size + 1 + 1,c.toNat,none⟩ (.bool true)) ((wr.setCell ⟨w.heap.size + 1 + 1,c.toNat,none⟩ (.bool true)).setCell ⟨w.heap.size + 1,c.toNat,none⟩ (.int .u8 xk)):=(Keep.refl (fun i=>i=w.heap.size + 1) _).setCell (p:=⟨w.heap.size + 1,c.toNat,none⟩) (.inl rfl) (.int .u8 xk)
       have q3:=Q2.out.keep kp1 (fun i h e=>by cases h; exact hg1 e)
       rw [HN.out] at q3
       have Q3:=Lib.hid q3
       have T0:=Lib.hid (P0.out.setOther (a:=⟨w.heap.size + 1,c.toNat,none⟩) (by simp) (.int .u8 xk))
       have T1:=Lib.hid (P1.out.ahSet (p:=c) (by omega) (by omega) xk)
       have T2:=Lib.hid (P2.out.setOther (a:=⟨w.heap.size + 1,c.toNat,none⟩) (by simp) (.int .u8 xk))
       have TB:=Lib.hid (PB.out.setCell (p:=⟨w.heap.size + 1,c.toNat,none⟩) (by simp) (.int .u8 xk))
       have hsz:=B1.out.size
       clear q3 P0 P1 P2 PB Q2 kp1 kp2 hpos hbc Q1 R0 R1 R2 B1 S1
       go_wp2_with fail
       refine CC.out.mono ?_
       rintro e w1 ⟨rfl,rfl⟩
       clear CC
       go_wp2_with (at_builtin; refine wpList_append_que _ rfl (.tmp 42) (.tmp 44) rfl w.heap.size _ (qL x k n) rfl (Q3.out.alloc _) _ _ c rfl (Blk.newAt _ _ _ (by simp)) (by have:=hNn.out; have:=HN.out; omega) (by simp; omega) ?_)
       intro v3 w3 q3 hgr3
       have hge:∀ k,(Value.slice (some ⟨g,off,none⟩) N cap).ownBlock=some k→w.heap.size≤k:=fun k e=>by cases e; exact c4
       have U0:=Lib.hid (show Blk w3 w.heap.size (ahA fun _=>0) 387 from (hgr3.block w.heap.size (by simp; omega) (fun e=>by
        have q:=Q3.out.ne T0.out (by decide)
        exact q _ e.symm rfl)).trans (T0.out.alloc _).out)
       have U1:=Lib.hid (show Blk w3 (w.heap.size + 1) (ahA (upI ah c xk)) 387 from (hgr3.block (w.heap.size + 1) (by simp; omega) (fun e=>by
        have q:=Q3.out.ne T1.out (by decide)
        exact q _ e.symm rfl)).trans (T1.out.alloc _).out)
       have U2:=Lib.hid (show Blk w3 (w.heap.size + 1 + 1) (inA fun q=>if q=c then true else b q) 153 from (hgr3.block (w.heap.size + 1 + 1) (by simp; omega) (fun e=>by
        have q:=Q3.out.ne T2.out (by decide)
        exact q _ e.symm rfl)).trans (T2.out.alloc _).out)
       have UB:=Lib.hid ((TB.out.alloc TB.out.size _).grown hgr3 (by simp; omega) hge)
       have UQ:=Lib.hid q3
       clear q3 hgr3 hge T0 T1 T2 TB Q3 ch ch1 d1 f1 dk fk
       obtain ⟨g3,off3,cap3,hv3,_⟩:=UQ.out.shape
       go_wp2_with fail
       go_roundw
       case rel=>exact ⟨_,_,n + 1,_,_,c + 1,S2.out,by omega,by omega,by omega,by go_num,by rw [QA.out]; exact UQ.out,U0.out,U1.out,U2.out,UB.out⟩
       case measure=>simp [intOf]; omega
      ·have S2:=Lib.hid (S1.out.skip hkn (.inr (by omega)))
       generalize f (x k) c=y at *
       have q1:decide (0<y)=false:=by simpa using hpos
       clear hbc fk hpos
       go_wp2_with fail
       refine CC.out.mono ?_
       rintro e w1 ⟨rfl,rfl⟩
       clear CC
       go_wp2_with fail
       go_roundw
       case rel=>exact ⟨x,pa,n,b,ah,c + 1,S2.out,hkn,by omega,by omega,by go_num,HN.out ▸ Q1.out,R0.out,R1.out,R2.out,B1.out⟩
       case measure=>simp [intOf]; omega
    ·have hc17:c=17:=by omega
     subst hc17
     have S2:=Lib.hid (S1.out.next HI.out)
     have hr:=run_next (P:=Tryz.prog) wr 41 68 Tryz.underlying41 (Tryz.sizeOf68 wr) g off N cap hN0 c1
     have Q2:Hid (Que wr w.heap.size 68 (.slice (some (nextA g off cap)) (N - 1) (cap - 1)) (qL x (k + 1) n)):=Lib.hid (by
      have q:=Q1.out
      rw [HN.out,qL_head x hkn] at q
      have hl:N=(qL x (k + 1) n).length + 1:=by rw [← HN.out,qL_head x hkn]; rfl
      rw [hl] at q ⊢
      exact q.next)
     clear Q1
     go_wp2_with fail
     go_roundg (17 - (k + 1))
     case rel=>exact ⟨x,pa,n,b,ah,k + 1,S2.out,by omega,by omega,Q2.out,R0.out,R1.out,R2.out,B1.out⟩
     case measure=>omega
  ·have hkn':k=n:=by omega
   subst hkn'
   have hN0:N=0:=by omega
   subst hN0
   have D:=Lib.hid (S1.out.done HI.out)
   clear hkm hNk hN c5 HN hlt hkn c1 hn16
   unfold maxLen at c2
   go_wp2_with first
    | ((with_reducible refine wpList_load_row ?_ 387 (.tmp 5) ?_ (w.heap.size + 1) ?_ 387 (ahA ah) (0,0) _ R1.out.out Tryz.underlying387 ?_ (info_links _) ?_); exact rfl; exact rfl; exact rfl; exact rfl)
    | ((with_reducible refine wpList_store_row ?_ 387 (.tmp 4) (.tmp 46) ?_ w.heap.size (ahA ah) ?_ ?_ 387 _ R0.out.out (info_links _) (by simp only [ahA_size]) (ahA_one _) ?_); exact rfl; exact rfl; exact rfl; exact rfl)
   have K9:=R0.out.row (cs:=ahA ah)
   have B9:=below_setRow B1.out (Nat.le_refl _) (ahA ah)
   refine bodyPost_ret (v:=.agg (ahA ah)) (results_cell_row rfl _ _ w.heap.size 387 (ahA ah) (0,0) _ rfl K9 Tryz.underlying387 rfl (info_links _)) rfl ?_
   exact ⟨b,_,ah,rfl,D.out,S1.out.aha,S1.out.ah0,B9⟩
end Go.Proofs.YtngnfdnfpiiclaaGreat
namespace Go.Proofs.YtngnfdnfpiiclaaGreat
open Go.RowKit
theorem RowPost.empty {w w':World} {e:TypeId} (h:Below w.heap.size w w'):RowPost e [] w (.returned (.slice none 0 0)) w':=⟨_,rfl,⟨rfl,.inl ⟨rfl,rfl⟩⟩,h⟩
set_option maxHeartbeats 4000000 in
set_option maxRecDepth 100000 in
theorem pshort_any {w:World} {v:Value} {f:Int→Int→Int} {a b:Int} (h:IsG w v f) (hI:GInv f 4398046511104) (ha:In8 a) (hb:In8 b) :
  Calls Tryz.prog 260 #[v,.int .u8 a,.int .u8 b] w (RowPost 68 (shortW f a b) w):=by
 have C1:=Lib.hid (pmayP_any a w)
 have C2:=Lib.hid (pmayP_any b w)
 by_cases c1:inP a
 ·rw [mayG_true c1] at C1
  by_cases c2:inP b
  ·rw [mayG_true c2] at C2
   have CS:=Lib.hid (spread_any h hI c1)
   have HI:=Lib.hid hI
   have HA:=Lib.hid c1
   have HB:=Lib.hid c2
   have hz:=zero_links.1
   obtain ⟨b1,b2⟩:=c2
   clear h hI ha hb c1
   go_enter Tryz.func260,Tryz.ntmps260
   go_wp2_with fail
   refine C1.out.mono ?_
   rintro e w1 ⟨rfl,rfl⟩
   clear C1
   go_wp2_with fail
   refine C2.out.mono ?_
   rintro e w1 ⟨rfl,rfl⟩
   clear C2
   go_wp2_with fail
   refine CS.out.mono ?_
   rintro e w1 ⟨bb,pos,ah,rfl,hS,ha0,hah,hB⟩
   have SP:=Lib.hid hS
   have A0:=Lib.hid ha0
   have AH:=Lib.hid hah
   have B1:=Lib.hid hB
   have Z:=Lib.hid (Blk.new w1 (ahA fun _=>0) 387)
   have E1:=World.setRow_alloc_new w1 (ahA fun _=>0) (ahA ah) 387
   have B2:=Lib.hid (B1.out.alloc B1.out.size (.cells (ahA ah) 387))
   have K2:=Lib.hid (Blk.new w1 (ahA ah) 387)
   have d2:=K2.out.ahAt (p:=b) (by omega) (by omega)
   clear hS ha0 hah hB CS
   by_cases hr:bb b=true∧b≠a
   ·obtain ⟨hr1,hr2⟩:=hr
    obtain ⟨D,D1,D15,D2,D3,D4,D5⟩:=SP.out.short HI.out HA.out hr1 hr2
    have hin:=SP.out.inp _ (SP.out.par b hr1 hr2).1
    have q0:(ah b==0)=false:=by
     unfold inP at hin
     simp
     omega
    have CT:=Lib.hid (turned_any (w:=w1.alloc (.cells (ahA ah) 387)) (g:=w1.heap.size) (off:=0) (ah:=ah) (p:=b) (n:=D + 1) (by simp) (fun c hc=>by rw [Nat.zero_add,K2.out.cell,ahA_get ah hc]) (fun i hi=>D3 i (by omega)) (fun i j hij hj=>D4 i j hij (by omega)) (.inl (by rw [itr_succ,D2]; exact A0.out)) (by omega) (by omega))
    rw [← D5] at CT
    clear D3 D4 D5 D2 hin hr1 hr2
    generalize shortW f a b=L at *
    generalize ah b=y at *
    go_wp2_with ((with_reducible refine wpList_store_row ?_ 387 (.tmp 7) (.tmp 18) ?_ w1.heap.size (ahA ah) ?_ ?_ 387 _ Z.out.out (info_links _) (by simp only [ahA_size]) (ahA_one _) ?_); exact rfl; exact rfl; exact rfl; exact rfl; rw [E1])
    refine CT.out.mono ?_
    rintro e w2 ⟨v2,rfl,hrow,hb2⟩
    have R2:=Lib.hid (hrow.base (b':=w.heap.size) (by have:=B2.out.size; simpa using this))
    have B3:=Lib.hid (B2.out.trans (hb2.mono B2.out.size))
    clear hrow hb2 CT
    go_wp2_with fail
    refine bodyPost_ret (v:=v2) (by simp [results,Tryz.results260,go_sem]) rfl ?_
    exact ⟨v2,rfl,R2.out,B3.out⟩
   ·have hy:ah b=0:=by
     by_cases hba:b=a
     ·rw [hba]; exact A0.out
     ·refine AH.out b ?_
      cases hc:bb b with
      | false=>rfl
      | true=>exact absurd ⟨hc,hba⟩ hr
    have hL:shortW f a b=[]:=by
     by_cases hba:b=a
     ·unfold shortW
      rw [if_neg (fun h=>h.2.2.1 hba.symm)]
     ·exact SP.out.no HI.out (fun hc=>hr ⟨hc,hba⟩)
    have HL:=Lib.hid hL
    rw [hy] at d2
    clear hr hL hy
    go_wp2_with ((with_reducible refine wpList_store_row ?_ 387 (.tmp 7) (.tmp 18) ?_ w1.heap.size (ahA ah) ?_ ?_ 387 _ Z.out.out (info_links _) (by simp only [ahA_size]) (ahA_one _) ?_); exact rfl; exact rfl; exact rfl; exact rfl; rw [E1])
    refine bodyPost_ret (v:=.slice none 0 0) (by simp [results,Tryz.results260,go_sem]) rfl ?_
    rw [HL.out]
    exact RowPost.empty B2.out
  ·rw [mayG_false c2] at C2
   rw [show shortW f a b=[] by unfold shortW; rw [if_neg (fun h=>c2 h.2.1)]]
   clear h hI ha hb c1 c2
   go_enter Tryz.func260,Tryz.ntmps260
   go_wp2_with fail
   refine C1.out.mono ?_
   rintro e w1 ⟨rfl,rfl⟩
   go_wp2_with fail
   refine C2.out.mono ?_
   rintro e w1 ⟨rfl,rfl⟩
   go_wp2_with fail
   refine bodyPost_ret (v:=.slice none 0 0) (by simp [results,Tryz.results260,go_sem]) rfl ?_
   exact RowPost.empty (Below.refl _ _)
 ·rw [mayG_false c1] at C1
  rw [show shortW f a b=[] by unfold shortW; rw [if_neg (fun h=>c1 h.1)]]
  clear h hI ha hb c1 C2
  go_enter Tryz.func260,Tryz.ntmps260
  go_wp2_with fail
  refine C1.out.mono ?_
  rintro e w1 ⟨rfl,rfl⟩
  go_wp2_with fail
  refine bodyPost_ret (v:=.slice none 0 0) (by simp [results,Tryz.results260,go_sem]) rfl ?_
  exact RowPost.empty (Below.refl _ _)
end Go.Proofs.YtngnfdnfpiiclaaGreat
