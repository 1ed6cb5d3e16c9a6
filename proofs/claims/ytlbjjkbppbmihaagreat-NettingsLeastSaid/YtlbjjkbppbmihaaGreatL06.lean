/-
  Pieces of one proof, without what is not wanted: PRow, Edg, PShorten, PRound.
-/
import Derived.Test.YtlbjjkbppbmihaaGreatL04
import Derived.Test.YtlbjjkbppbmihaaGreatL05
import Derived.Deep.AppendSrc
import Derived.Deep.LoopGhost
import Derived.Maps.AppendAt
import Derived.Deep.RegionLaw
import Derived.WalkMore
import Derived.ScopeJumps
set_option linter.unusedSimpArgs false
set_option linter.unusedVariables false
namespace Go.Proofs.YtlbjjkbppbmihaaGreat
open Go.RowKit
theorem clipY_any {w:World} {base:Nat} {v:Value} {n:Nat} {xs:List Value} (h:w.ownsRow base 30 1 v n xs) :
  Calls Tryz.prog 79 #[v] w (ClipPost w base 30 1 n v xs):=by
 rcases h.2 with ⟨rfl,h0⟩ | ⟨g,cap,cur,rfl,hbase,hb,h1,h2,h3,h4⟩
 ·subst h0
  have hr:=run_slice_clip_none (P:=Tryz.prog) w 67 30 1 Tryz.underlying67 (Tryz.sizeOf30 w)
  have hx:=h.1
  have hx2:=Lib.hid hx
  clear h hx
  go_enter Tryz.func79,Tryz.ntmps79
  go_wp2
  refine bodyPost_ret (v:=.slice none 0 0) (by simp [results,Tryz.results79,go_sem]) rfl ?_
  exact ⟨_,rfl,⟨hx2.out,.inl ⟨rfl,rfl⟩⟩,rfl,rfl⟩
 ·have hr:=run_slice_clip (P:=Tryz.prog) w 67 30 1 Tryz.underlying67 (Tryz.sizeOf30 w) g n cap h1
  have HR:=Lib.hid (show Rowed w base 30 1 (.slice (some ⟨g,0,none⟩) n n) n xs from ⟨h.1,.inr ⟨g,cur,rfl,hbase,hb,by omega,by omega,h4⟩⟩)
  clear h hb h4 h3
  unfold maxLen at h2
  go_enter Tryz.func79,Tryz.ntmps79
  go_wp2
  refine bodyPost_ret (v:=.slice (some ⟨g,0,none⟩) n n) (by simp [results,Tryz.results79,go_sem]) rfl ?_
  exact ⟨_,rfl,HR.out,rfl,rfl⟩
def RowF (w:World) (g:Nat) (e:TypeId) (c n:Nat) (F:Nat→Int):Prop:=∃ cur,Blk w g cur e∧cur.size=c∧n≤c∧∀ p,p<n→cur[p]? = some (.int .u8 (F p))
theorem RowF.lt {w:World} {g:Nat} {e:TypeId} {c n:Nat} {F:Nat→Int} (h:RowF w g e c n F):g<w.heap.size:=by
 obtain ⟨cur,h1,_⟩:=h
 exact h1.lt
theorem RowF.cell {w:World} {g:Nat} {e:TypeId} {c n:Nat} {F:Nat→Int} (h:RowF w g e c n F) {p:Nat} (hp:p<n):w.cell? ⟨g,p,none⟩=some (.int .u8 (F p)):=by
 obtain ⟨cur,h1,_,_,h4⟩:=h
 rw [h1.cell]; exact h4 p hp
theorem RowF.frozen {w:World} {g:Nat} {e:TypeId} {c n:Nat} {F:Nat→Int} (h:RowF w g e c n F) (p:Nat):w.frozen? ⟨g,p,none⟩=false:=by
 obtain ⟨cur,h1,_⟩:=h
 exact h1.frozen p
theorem RowF.set {w:World} {g:Nat} {e:TypeId} {c n:Nat} {F:Nat→Int} (h:RowF w g e c n F) {p:Nat} (hp:p<n) (u:Int):RowF (w.setCell ⟨g,p,none⟩ (.int .u8 u)) g e c n (fun q=>if q=p then u else F q):=by
 obtain ⟨cur,h1,h2,h3,h4⟩:=h
 refine ⟨_,h1.set p (.int .u8 u),by simpa using h2,h3,fun q hq=>?_⟩
 by_cases e:q=p
 ·subst e
  rw [Array.getElem?_setIfInBounds_self_of_lt (by omega)]
  simp
 ·rw [Array.getElem?_setIfInBounds_ne (fun h=>e h.symm),h4 q hq]
  simp [e]
theorem RowF.congr {w:World} {g:Nat} {e:TypeId} {c n:Nat} {F G:Nat→Int} (h:RowF w g e c n F) (hf:∀ p,p<n→F p=G p):RowF w g e c n G:=by
 obtain ⟨cur,h1,h2,h3,h4⟩:=h
 exact ⟨cur,h1,h2,h3,fun p hp=>by rw [← hf p hp]; exact h4 p hp⟩
theorem RowF.drew {w:World} {g:Nat} {e:TypeId} {c n:Nat} {F:Nat→Int} (h:RowF w g e c n F):RowF w.drew g e c n F:=h
theorem RowF.owns {w:World} {g:Nat} {e:TypeId} {c n base:Nat} {F:Nat→Int} (h:RowF w g e c n F) (hb:base≤g) (hc:c≤maxLen) {L:List Int} (hl:L.length=n) (hL:∀ p (hp:p<L.length),L[p]=F p) :
  w.ownsRow base e 1 (.slice (some ⟨g,0,none⟩) n c) n (L.map (.int .u8)):=by
 obtain ⟨cur,h1,h2,h3,h4⟩:=h
 refine ⟨by simp [hl],.inr ⟨g,c,cur,rfl,hb,h1,h3,hc,by omega,?_⟩⟩
 apply List.ext_getElem?
 intro p
 by_cases hp:p<n
 ·rw [List.getElem?_take_of_lt (by omega),Array.getElem?_toList,h4 p hp,List.getElem?_map,List.getElem?_eq_getElem (by omega),hL p (by omega)]
  rfl
 ·rw [List.getElem?_eq_none (by simp; omega),List.getElem?_eq_none (by simp; omega)]
theorem RowF.of {w:World} {base:Nat} {e:TypeId} {v:Value} {L:List Int} (h:w.ownsRow base e 1 v L.length (L.map (.int .u8))) (h0:0<L.length) :
  ∃ g c,v=.slice (some ⟨g,0,none⟩) L.length c∧base≤g∧c≤maxLen∧L.length≤c∧RowF w g e c L.length (fun p=>L.getD p 0):=by
 obtain ⟨_,⟨_,h2⟩ | ⟨g,cap,cur,rfl,hb,hg,h1,h2,h3,h4⟩⟩:=h
 ·omega
 ·refine ⟨g,cap,rfl,hb,h2,h1,cur,hg,by omega,h1,fun p hp=>?_⟩
  have:(cur.toList.take (L.length * 1))[p]? = (L.map (Value.int .u8))[p]? := by rw [h4]
  rw [List.getElem?_take_of_lt (by omega),Array.getElem?_toList,List.getElem?_map] at this
  rw [this,List.getElem?_eq_getElem hp]
  simp [List.getElem?_eq_getElem hp]
def RevAt (w:World) (g:Nat) (e:TypeId) (c n:Nat) (F:Nat→Int) (iv jv:Value) (wr:World):Prop :=
 ∃ (i:Nat) (j:Int),i≤n∧j=(n:Int) - 1 - i∧iv=.int .i64 i∧jv=.int .i64 j∧RowF wr g e c n (fun p=>if p<i∨n≤p + i then F (n - 1 - p) else F p)∧Below g w wr
set_option maxHeartbeats 4000000 in
theorem revF_any {w:World} {g c n:Nat} {F:Nat→Int} (h:RowF w g 30 c n F) (hn:n≤100000) :
  Calls Tryz.prog 126 #[.slice (some ⟨g,0,none⟩) n c] w fun e w'=>e=.returned (.tuple #[])∧RowF w' g 30 c n (fun p=>F (n - 1 - p))∧Below g w w':=by
 have H:=Lib.hid h
 clear h
 go_enter Tryz.func126,Tryz.ntmps126
 go_wp2
 go_loopw [2,3] (RevAt w g 30 c n F) (fun i _ _=>n - (intOf i).toNat)
 case atStart=>exact ⟨0,(n:Int) - 1,by omega,by omega,rfl,rfl,H.out.congr (fun p hp=>by rw [if_neg (by omega)]),Below.refl _ _⟩
 case round =>
  obtain ⟨i,j,hi,hj,rfl,rfl,hrow,hb⟩:=hrel
  have R:=Lib.hid hrow
  have B:=Lib.hid hb
  clear hrow hb H
  by_cases hlt:(i:Int)<j
  ·obtain ⟨k,rfl⟩:∃ k:Nat,j=k:=⟨j.toNat,by omega⟩
   have hik:i<k:=by omega
   have hkn:k + i + 1=n:=by omega
   have HK:=Lib.hid hkn
   clear hj
   have ci:=R.out.cell (p:=i) (by omega)
   have ck:=R.out.cell (p:=k) (by omega)
   have fi:=R.out.frozen i
   have fk:=R.out.frozen k
   have hgl:=R.out.lt
   try dsimp only at ci ck
   rw [if_neg (by omega)] at ci ck
   clear hkn
   have hkn:=HK.out
   have RA:=Lib.hid ((R.out.drew.set (p:=i) (by omega) (F k)).set (p:=k) (by omega) (F i))
   have RB:=Lib.hid ((R.out.drew.set (p:=k) (by omega) (F i)).set (p:=i) (by omega) (F k))
   have BA:=Lib.hid ((((B.out.trans (Below.refl g wr).drew).setCell (p:=⟨g,i,none⟩) (Nat.le_refl _) (.int .u8 (F k)))).setCell (p:=⟨g,k,none⟩) (Nat.le_refl _) (.int .u8 (F i)))
   have BB:=Lib.hid ((((B.out.trans (Below.refl g wr).drew).setCell (p:=⟨g,k,none⟩) (Nat.le_refl _) (.int .u8 (F i)))).setCell (p:=⟨g,i,none⟩) (Nat.le_refl _) (.int .u8 (F k)))
   have FE:Hid (∀ p,p<n→(if p=k then F i else if p=i then F k else if p<i∨n≤p + i then F (n - 1 - p) else F p)=if p<i + 1∨n≤p + (i + 1) then F (n - 1 - p) else F p):=Lib.hid (fun p hp=>by
    by_cases e1:p=k
    ·subst e1; rw [if_pos rfl,if_pos (by omega)]; congr 1; omega
    ·rw [if_neg e1]
     by_cases e2:p=i
     ·subst e2; rw [if_pos rfl,if_pos (by omega)]; congr 1; omega
     ·rw [if_neg e2]
      by_cases e3:p<i∨n≤p + i
      ·rw [if_pos e3,if_pos (by omega)]
      ·rw [if_neg e3,if_neg (by omega)])
   have FE2:Hid (∀ p,p<n→(if p=i then F k else if p=k then F i else if p<i∨n≤p + i then F (n - 1 - p) else F p)=if p<i + 1∨n≤p + (i + 1) then F (n - 1 - p) else F p):=Lib.hid (fun p hp=>by
    rw [← FE.out p hp]
    by_cases e1:p=k
    ·rw [if_neg (by omega),if_pos e1,if_pos e1]
    ·by_cases e2:p=i
     ·rw [if_pos e2,if_neg e1,if_pos e2]
     ·rw [if_neg e2,if_neg e1,if_neg e1,if_neg e2])
   have R1:=Lib.hid (RA.out.congr FE.out)
   have R2:=Lib.hid (RB.out.congr FE2.out)
   clear RA RB FE FE2 R
   go_wp2_with fail
   go_region
   all_goals
    go_wp2
    go_roundw
    case rel=>exact ⟨i + 1,(k:Int) - 1,by omega,by omega,by go_num,by go_num,by first | exact R1.out | exact R2.out,by first | exact BA.out | exact BB.out⟩
    case measure=>simp [intOf]; omega
  ·go_wp2
   go_end0
   refine ⟨rfl,R.out.congr (fun p hp=>?_),B.out⟩
   by_cases e:p<i∨n≤p + i
   ·rw [if_pos e]
   ·rw [if_neg e]; congr 1; omega
theorem rev_any {w:World} {base:Nat} {v:Value} {L:List Int} (h:w.ownsRow base 30 1 v L.length (L.map (.int .u8))) (h0:0<L.length) (hl:L.length≤100000) :
  Calls Tryz.prog 126 #[v] w fun e w'=>e=.returned (.tuple #[])∧w'.ownsRow base 30 1 v L.length (L.reverse.map (.int .u8))∧Below base w w':=by
 obtain ⟨g,c,rfl,hb,hc,hlc,hr⟩:=RowF.of h h0
 refine (revF_any hr hl).mono ?_
 rintro e w' ⟨rfl,h1,h2⟩
 refine ⟨rfl,h1.owns hb hc (by simp) (fun p hp=>?_),h2.mono hb⟩
 have hp':p<L.length:=by simpa using hp
 rw [List.getElem_reverse,List.getD_eq_getElem?_getD,List.getElem?_eq_getElem (by omega)]
 rfl
def MinAt (w:World) (L:List Int) (mv iv:Value) (wr:World):Prop :=
 ∃ (i:Nat) (m:Int),1≤i∧i≤L.length∧mv=.int .u8 m∧iv=.int .i64 i∧m ∈ L∧(∀ k (hk:k<L.length),k<i→m≤L[k])∧wr=w
set_option maxHeartbeats 2000000 in
theorem minP_any {w:World} {v:Value} {L:List Int} (h:Reads w v 1 L.length (L.map (.int .u8))) (h0:0<L.length) :
  Calls Tryz.prog 114 #[v] w fun e w'=>∃ m,e=.returned (.int .u8 m)∧m ∈ L∧(∀ x ∈ L,m≤x)∧w'=w:=by
 obtain ⟨ao,cap,rfl,hn,_,hc⟩:=h
 obtain ⟨b,off,rfl,hbl,hcell⟩:=hc h0
 have C:=Lib.hid (fun k (hk:k<L.length)=>show w.cell? ⟨b,off + k,none⟩=some (.int .u8 L[k]) by rw [hcell k (by omega),List.getElem?_map,List.getElem?_eq_getElem hk]; rfl)
 have c0:=C.out 0 h0
 rw [Nat.add_zero] at c0
 have M0:=Lib.hid (List.getElem_mem h0)
 have E0:=Lib.hid (show ∀ k (hk:k<L.length),k<1→L[0]≤L[k] from fun k hk h=>by
  have:k=0:=by omega
  subst this; exact Int.le_refl _)
 generalize L[0]=m0 at *
 clear hcell hc
 go_enter Tryz.func114,Tryz.ntmps114
 go_wp2
 go_loopw [3,4] (MinAt w L) (fun _ i _=>L.length - (intOf i).toNat)
 case atStart=>exact ⟨1,m0,by omega,by omega,rfl,rfl,M0.out,E0.out,rfl⟩
 case round =>
  obtain ⟨i,m,i1,i2,rfl,rfl,hm,hle,rfl⟩:=hrel
  have HM:=Lib.hid hm
  have HL:=Lib.hid hle
  clear hm hle M0 E0 c0
  by_cases hi:i<L.length
  ·have ci:=C.out i hi
   have MI:=Lib.hid (List.getElem_mem hi)
   have EI:=Lib.hid (show ∀ k (hk:k<L.length),k<i + 1→k<i∨L[k]=L[i] from fun k hk h=>by
    by_cases e:k<i
    ·exact .inl e
    ·right
     have:k=i:=by omega
     subst this; rfl)
   generalize L[i]=x at *
   have MN:Hid (∀ y,(y=m∧m≤x)∨(y=x∧x≤m)→y ∈ L∧∀ k (hk:k<L.length),k<i + 1→y≤L[k]):=Lib.hid (fun y hy=>by
    refine ⟨by rcases hy with ⟨rfl,_⟩ | ⟨rfl,_⟩; exact HM.out; exact MI.out,fun k hk h=>?_⟩
    rcases EI.out k hk h with q | q
    ·have:=HL.out k hk q
     omega
    ·rw [q]; omega)
   rcases Int.lt_or_le x m with q | q
   ·obtain ⟨N1,N2⟩:=MN.out x (.inr ⟨rfl,by omega⟩)
    have N1:=Lib.hid N1
    have N2:=Lib.hid N2
    go_wp2
    go_roundw
    case rel=>exact ⟨i + 1,x,by omega,by omega,by first | rfl | (simp; omega),by go_num,N1.out,N2.out,rfl⟩
    case measure=>simp [intOf]; omega
   ·obtain ⟨N1,N2⟩:=MN.out m (.inl ⟨rfl,by omega⟩)
    have N1:=Lib.hid N1
    have N2:=Lib.hid N2
    go_wp2
    go_roundw
    case rel=>exact ⟨i + 1,m,by omega,by omega,by first | rfl | (simp; omega),by go_num,N1.out,N2.out,rfl⟩
    case measure=>simp [intOf]; omega
  ·have hil:i=L.length:=by omega
   go_wp2
   refine bodyPost_ret (v:=.int .u8 m) (by simp [results,Tryz.results114,go_sem]) rfl ?_
   refine ⟨m,rfl,HM.out,fun x hx=>?_,rfl⟩
   obtain ⟨k,hk,rfl⟩:=List.getElem_of_mem hx
   exact HL.out k hk (by omega)
theorem pmayP_any (p:Int) (w:World):Calls Tryz.prog 125 #[.int .u8 p] w fun e w'=>e=.returned (.bool (mayG p))∧w=w':=by
 have hs:(¬ 1≤p∧mayG p=false)∨(1≤p∧p≤16∧mayG p=true)∨(1≤p∧¬ p≤16∧mayG p=false):=by unfold mayG; simp; omega
 rcases hs with ⟨h1,h2⟩ | ⟨h1,h3,h2⟩ | ⟨h1,h3,h2⟩
 all_goals
  rw [h2]
  clear h2
  go_enter Tryz.func125,Tryz.ntmps125
  go_wp2
  go_ret
  exact ⟨rfl,rfl⟩
end Go.Proofs.YtlbjjkbppbmihaaGreat
namespace Go.Proofs.YtlbjjkbppbmihaaGreat
open Go.RowKit
def cameF (ah:Int→Int) (p:Int) (i:Nat) (c:Int):Bool:=c==0 || (List.range i).any fun j=>itr ah j p==c
theorem cameF_iff {ah:Int→Int} {p:Int} {i:Nat} {c:Int}:cameF ah p i c=true↔c=0∨∃ j,j<i∧itr ah j p=c:=by
 unfold cameF
 simp
theorem cameF_next (ah:Int→Int) (p:Int) (i:Nat):(fun q=>if q=itr ah i p then true else cameF ah p i q)=cameF ah p (i + 1):=by
 funext q
 by_cases h:q=itr ah i p
 ·rw [if_pos h]
  exact (cameF_iff.2 (.inr ⟨i,by omega,h.symm⟩)).symm
 ·rw [if_neg h]
  apply Bool.eq_iff_iff.2
  rw [cameF_iff,cameF_iff]
  constructor
  ·rintro (h1 | ⟨j,h1,h2⟩)
   ·exact .inl h1
   ·exact .inr ⟨j,by omega,h2⟩
  ·rintro (h1 | ⟨j,h1,h2⟩)
   ·exact .inl h1
   ·by_cases e:j=i
    ·subst e; exact absurd h2.symm h
    ·exact .inr ⟨j,by omega,h2⟩
theorem inA_form (b:Int→Bool):inA b=#[.bool (b 0),.bool (b 1),.bool (b 2),.bool (b 3),.bool (b 4),.bool (b 5),.bool (b 6),.bool (b 7),.bool (b 8),.bool (b 9),.bool (b 10),.bool (b 11),.bool (b 12),.bool (b 13),.bool (b 14),.bool (b 15),.bool (b 16)]:=by
 apply Array.ext (by rw [inA_size]; rfl)
 intro i h1 h2
 have h17:i<17:=by rw [inA_size] at h1; exact h1
 have:=inA_get b h17
 rw [Array.getElem?_eq_getElem h1] at this
 simp only [Option.some.injEq] at this
 rw [this]
 have hi:i=0∨i=1∨i=2∨i=3∨i=4∨i=5∨i=6∨i=7∨i=8∨i=9∨i=10∨i=11∨i=12∨i=13∨i=14∨i=15∨i=16:=by omega
 rcases hi with rfl | rfl | rfl | rfl | rfl | rfl | rfl | rfl | rfl | rfl | rfl | rfl | rfl | rfl | rfl | rfl | rfl <;> rfl
theorem build_came (ah:Int→Int) (p:Int) (w:World):(Instr.build 64 #[(0,.bool true)]).run Tryz.prog w=.ok (.agg (inA (cameF ah p 0))) w:=by
 rw [inA_form]
 show _=Result.ok (Value.agg #[.bool true,.bool false,.bool false,.bool false,.bool false,.bool false,.bool false,.bool false,.bool false,.bool false,.bool false,.bool false,.bool false,.bool false,.bool false,.bool false,.bool false]) w
 kernel_rfl
theorem zero_inP:(∀ w,(zeroValue 64).run Tryz.prog w=.ok (.agg (inA fun _=>false)) w)∧(Tryz.prog.info? 64).map (·.size)=some 17:=by
 rw [inA_form]
 exact zero_of_info (by kernel_rfl)
theorem info_inP (b:Int→Bool):(Tryz.prog.info? 64).map (·.size)=some (inA b).size:=by rw [inA_size]; exact zero_inP.2
def sLen:Value→Nat
 | .slice _ k _=>k
 | _=>0
theorem sLen_slice (a:Option Addr) (n c:Nat):sLen (.slice a n c)=n:=rfl
def TurnAt (w:World) (ah:Int→Int) (p:Int) (n:Nat) (pv lv:Value) (wr:World):Prop :=
 ∃ i:Nat,i≤n∧pv=.int .u8 (itr ah i p)∧wr.ownsRow w.heap.size 30 1 lv ((List.range i).map fun j=>itr ah j p).length (((List.range i).map fun j=>itr ah j p).map (.int .u8))∧Blk wr w.heap.size (inA (cameF ah p i)) 64∧Below w.heap.size w wr
set_option maxHeartbeats 8000000 in
set_option maxRecDepth 100000 in
theorem turned_any {w:World} {g off:Nat} {ah:Int→Int} {p:Int} {n:Nat} (hg:g<w.heap.size) (hcell:∀ c:Nat,c<17→w.cell? ⟨g,off + c,none⟩=some (.int .u8 (ah c)))
  (hn:∀ i,i<n→inP (itr ah i p)) (hd:∀ i j,i<j→j<n→itr ah i p≠itr ah j p) (he:itr ah n p=0∨∃ i,i<n∧itr ah i p=itr ah n p) (h1:1≤n) (h16:n≤16) :
  Calls Tryz.prog 115 #[.pointer (some ⟨g,off,none⟩),.int .u8 p] w (RowPost 30 (chainL ah p n) w):=by
 have HC:=Lib.hid hcell
 have HN:=Lib.hid hn
 have HD:=Lib.hid hd
 have HE:=Lib.hid (cameF_iff.2 (he.imp id (fun ⟨i,h1,h2⟩=>⟨i,h1,h2⟩)))
 have hz:=zero_inP.1
 have Z:=Lib.hid (Blk.new w (inA fun _=>false) 64)
 have E1:=World.setRow_alloc_new w (inA fun _=>false) (inA (cameF ah p 0)) 64
 have B1:=Lib.hid ((Below.refl w.heap.size w).alloc (Nat.le_refl _) (.cells (inA (cameF ah p 0)) 64))
 have K1:=Lib.hid (Blk.new w (inA (cameF ah p 0)) 64)
 clear hcell hn hd he
 go_enter Tryz.func115,Tryz.ntmps115
 go_wp2_with first
  | (refine wpList_build_of ?_ 64 #[(0,.const (.bool true))] ?_ #[(0,.bool true)] ?_ (inA (cameF ah p 0)) (build_came ah p _) ?_; exact rfl; exact rfl; simp [Act.eval])
  | ((with_reducible refine wpList_store_row ?_ 64 (.tmp 6) (.tmp 7) ?_ w.heap.size (inA (cameF ah p 0)) ?_ ?_ 64 _ Z.out.out (info_inP _) (by simp only [inA_size]) (inA_one _) ?_); exact rfl; exact rfl; exact rfl; exact rfl; rw [E1])
 generalize hW:w.alloc (.cells (inA (cameF ah p 0)) 64)=W1 at *
 clear hW hz E1 Z
 simp only [Act.put]
 go_loopw [1,5] (TurnAt w ah p n) (fun _ l _=>n - sLen l)
 case atStart=>exact ⟨0,by omega,rfl,World.ownsRow_nil _ _ _ _,K1.out,B1.out⟩
 case round =>
  clear K1 B1
  obtain ⟨i,hi,rfl,hown,hK,hB⟩:=hrel
  have O1:=Lib.hid hown
  have K1:=Lib.hid hK
  have B1:=Lib.hid hB
  clear hown hK hB
  have hgr:=Nat.lt_of_lt_of_le hg B1.out.size
  have hkl:=K1.out.lt
  by_cases hin:i<n
  ·have hx:=HN.out i hin
   have NX:=Lib.hid (cameF_next ah p i)
   have IS:=Lib.hid (itr_succ ah i p)
   have LS:Hid (((List.range (i + 1)).map fun j=>itr ah j p)=((List.range i).map fun j=>itr ah j p)++[itr ah i p]):=Lib.hid (by rw [List.range_succ,List.map_append]; rfl)
   have hc0:cameF ah p i (itr ah i p)=false:=by
    cases hc:cameF ah p i (itr ah i p) with
    | false=>rfl
    | true =>
     rcases cameF_iff.1 hc with q | ⟨j,q1,q2⟩
     ·unfold inP at hx; omega
     ·exact absurd q2 (HD.out j i q1 hin)
   have LL:Hid (((List.range i).map fun j=>itr ah j p).length=i):=Lib.hid (by simp)
   generalize ((List.range i).map fun j=>itr ah j p)=L at *
   generalize itr ah i p=x at *
   obtain ⟨x1,x2⟩:=hx
   have dk:=K1.out.inAt (p:=x) (by omega) (by omega)
   have fk:=K1.out.frozen x.toNat
   rw [hc0] at dk
   have K2:=Lib.hid (K1.out.inSet (p:=x) (by omega) (by omega) true)
   rw [NX.out] at K2
   have B2:=Lib.hid (B1.out.setCell (p:=⟨w.heap.size,x.toNat,none⟩) (Nat.le_refl _) (.bool true))
   have O2:=Lib.hid (owns_keep (S:=fun b=>b=w.heap.size) O1.out ((Keep.refl (fun b=>b=w.heap.size) wr).setCell (p:=⟨w.heap.size,x.toNat,none⟩) (.inl rfl) (.bool true)) (owns_ne O1.out K1.out (by decide)))
   have O1':=Lib.hid O1.out
   clear hc0 O1
   have hll:L.length≤16:=by rw [LL.out]; omega
   go_wp2_with (at_builtin; refine wpList_append_party _ rfl (.tmp 19) (.tmp 21) rfl w.heap.size _ L rfl (O2.out.alloc _) _ _ x rfl (Blk.newAt _ _ _ (by simp)) (by omega) (by simp; have:=B2.out.size; simp at this; omega) ?_)
   intro v3 w3 hown3 hgr3
   have R2:∀ k,Value.ownBlock _=some k→w.heap.size≤k:=fun k hk=>(owns_type O2.out hk).1
   have B3:=Lib.hid ((B2.out.alloc B2.out.size _).grown hgr3 (by simp; have:=B2.out.size; simp at this; omega) (fun k hk=>R2 k hk))
   have K3:Hid (Blk w3 w.heap.size (inA (cameF ah p (i + 1))) 64):=Lib.hid ((hgr3.block w.heap.size (by simp; omega) (fun e=>owns_ne O2.out K2.out (by decide) _ e.symm rfl)).trans (K2.out.alloc _).out)
   have O3:=Lib.hid (show w3.ownsRow w.heap.size 30 1 v3 (L++[x]).length ((L++[x]).map (.int .u8)) by simpa using hown3)
   have dl:w3.cell? ⟨g,off + x.toNat,none⟩=some (.int .u8 (ah x)):=by
    rw [B3.out.cell (p:=⟨g,off + x.toNat,none⟩) hg,HC.out x.toNat (by omega),Int.toNat_of_nonneg (by omega)]
   have hg3:=Nat.lt_of_lt_of_le hg B3.out.size
   clear R2 hown3 hgr3 K2 B2 O2 K1 B1 dk fk
   obtain ⟨ao3,c3,hv3,_⟩:=owns_open O3.out
   subst hv3
   go_wp2_with fail
   go_roundw
   case rel=>exact ⟨i + 1,by omega,by rw [IS.out],by rw [LS.out]; exact O3.out,K3.out,B3.out⟩
   case measure =>
    obtain ⟨ao,cc,rfl,_⟩:=owns_open O1'.out
    have hLL:=LL.out
    simp [sLen_slice,List.length_append]
    omega
  ·obtain rfl:i=n:=by omega
   have hxr:0≤itr ah i p∧itr ah i p<17:=by
    rcases cameF_iff.1 HE.out with q | ⟨j,q1,q2⟩
    ·omega
    ·have:=HN.out j q1
     unfold inP at this
     omega
   have CL:Hid ((((List.range i).map fun j=>itr ah j p)).reverse=chainL ah p i):=Lib.hid rfl
   have LL:Hid (((List.range i).map fun j=>itr ah j p).length=i):=Lib.hid (by simp)
   have CR:=Lib.hid (rev_any O1.out (by rw [LL.out]; omega) (by rw [LL.out]; omega))
   rw [CL.out] at CR
   have HEi:=HE.out
   generalize ((List.range i).map fun j=>itr ah j p)=L at *
   generalize itr ah i p=x at *
   have dk:=K1.out.inAt (p:=x) (by omega) (by omega)
   rw [HEi] at dk
   obtain ⟨x1,x2⟩:=hxr
   obtain ⟨ao3,c3,hv3,_⟩:=owns_open O1.out
   subst hv3
   clear HEi
   go_wp2_with fail
   refine CR.out.mono ?_
   rintro e w4 ⟨rfl,hown,hb⟩
   have B4:=Lib.hid (B1.out.trans hb)
   have e6:(chainL ah p i).length=L.length:=by rw [chainL_len,LL.out]
   have O4:=Lib.hid (show w4.ownsRow w.heap.size 30 1 (.slice ao3 L.length c3) (chainL ah p i).length ((chainL ah p i).map (.int .u8)) by rw [e6]; exact hown)
   have CC:=Lib.hid (clipY_any O4.out)
   rw [e6] at CC
   have E6:=Lib.hid e6
   clear hown hb CR e6
   go_wp2_with fail
   refine CC.out.mono ?_
   rintro e w5 ⟨v',rfl,hrow,_,rfl⟩
   have HRow:=Lib.hid hrow
   clear hrow CC
   go_wp2_with fail
   refine bodyPost_ret (v:=v') (by simp [results,Tryz.results115,go_sem]) rfl ?_
   exact ⟨v',rfl,by rw [E6.out]; exact HRow.out,B4.out⟩
end Go.Proofs.YtlbjjkbppbmihaaGreat
namespace Go.Proofs.YtlbjjkbppbmihaaGreat
open Go.RowKit
def Que (w:World) (base:Nat) (e:TypeId) (v:Value) (l:List Int):Prop :=
 ∃ (g off cap:Nat) (cur:Array Value),v=.slice (some ⟨g,off,none⟩) l.length cap∧base≤g∧Blk w g cur e∧l.length≤cap∧cap≤maxLen∧off + cap≤cur.size∧∀ j (hj:j<l.length),cur[off + j]? = some (.int .u8 l[j])
theorem Que.type {w:World} {base:Nat} {e:TypeId} {v:Value} {l:List Int} (h:Que w base e v l) {b:Nat} (hb:v.ownBlock=some b):base≤b∧b<w.heap.size∧∃ cur,Blk w b cur e:=by
 obtain ⟨g,off,cap,cur,rfl,hge,hg,_⟩:=h
 cases hb
 exact ⟨hge,hg.lt,cur,hg⟩
theorem Que.shape {w:World} {base:Nat} {e:TypeId} {v:Value} {l:List Int} (h:Que w base e v l) :
  ∃ (g off cap:Nat),v=.slice (some ⟨g,off,none⟩) l.length cap∧l.length≤cap∧cap≤maxLen∧g<w.heap.size∧base≤g∧∀ j (hj:j<l.length),w.cell? ⟨g,off + j,none⟩=some (.int .u8 l[j]):=by
 obtain ⟨g,off,cap,cur,rfl,hb,hg,h1,h2,h3,h4⟩:=h
 exact ⟨g,off,cap,rfl,h1,h2,hg.lt,hb,fun j hj=>by rw [hg.cell]; exact h4 j hj⟩
theorem Que.one {w:World} {base:Nat} {e:TypeId} {x:Int} (hb:base≤w.heap.size):Que (w.alloc (.cells #[.int .u8 x] e)) base e (.slice (some ⟨w.heap.size,0,none⟩) 1 1) [x] :=
 ⟨w.heap.size,0,1,_,rfl,hb,Blk.new _ _ _,Nat.le_refl _,by unfold maxLen; decide,by simp,fun j hj=>by
  have:j=0:=by simpa using hj
  subst this; rfl⟩
end Go.Proofs.YtlbjjkbppbmihaaGreat
namespace Go.Proofs.YtlbjjkbppbmihaaGreat
open Go.RowKit
end Go.Proofs.YtlbjjkbppbmihaaGreat
namespace Go.Proofs.YtlbjjkbppbmihaaGreat
open Go.RowKit
end Go.Proofs.YtlbjjkbppbmihaaGreat
namespace Go.Proofs.YtlbjjkbppbmihaaGreat
open Go.RowKit Go.ChangeShapes Go.WideShapes Go.Deep
def Ed.val (x:Ed):Value:=.agg #[.int .u8 x.fr,.int .u8 x.tt,.int .i8 x.co]
theorem edCells_append (a b:List Ed):edCells (a++b)=edCells a++edCells b:=by unfold edCells; exact List.flatMap_append
theorem edCells_one (x:Ed):edCells [x]=x.vals:=by simp [edCells]
section
variable {H:Type} {enc:TypeId × Value→H} {P:Program} {w:World} {base:Nat} {spare:Nat→Bool} {held:Bool}
end
theorem info_pe:(Tryz.prog.info? 141).map (fun i=>(i.zero,i.size,i.bytes))=some (some (Ed.val ⟨0,0,0⟩),3,3):=by kernel_rfl
section
variable {H:Type} {enc:TypeId × Value→H} {w:World} {base:Nat} {spare:Nat→Bool} {held:Bool}
end
theorem SlIn.edges {w:World} {a:Option Addr} {len cap:Nat} {xs:List Ed} (h:SlIn Ed.vals 3 Ed.Fits w a len cap xs) (hn:len≤100000000):Reads w (.slice a xs.length cap) 3 xs.length (edCells xs):=by
 obtain ⟨h0,hl,hk,h1,h2,h3⟩:=h
 subst hl
 refine ⟨a,cap,rfl,hn,edCells_len xs,fun hp=>?_⟩
 obtain ⟨b,off,ha,hb,hc⟩:=h3 hp
 refine ⟨b,off,ha,hb,fun j hj=>?_⟩
 have hjd:j / 3<xs.length:=by omega
 have h4:=edCells_get xs (j / 3) (j % 3) (by omega) hjd
 rw [show j / 3 * 3 + j % 3=j by omega] at h4
 have hv:(xs[j / 3].vals)[j % 3]? = some (xs[j / 3].vals[j % 3]'(by rw [Ed.vals_len]; omega)):=List.getElem?_eq_getElem _
 have h5:=hc (j / 3) hjd (j % 3) _ hv
 rw [show off + j / 3 * 3 + j % 3=off + j by omega] at h5
 rw [h5,h4,hv]
end Go.Proofs.YtlbjjkbppbmihaaGreat
namespace Go.Proofs.YtlbjjkbppbmihaaGreat
open Go.RowKit
def srC (far ahd:Int→Int):Array Value:=ltA far++ahA ahd
theorem srC_size (far ahd:Int→Int):(srC far ahd).size=34:=by unfold srC; rw [Array.size_append,ltA_size,ahA_size]
theorem srC_far (far ahd:Int→Int) {i:Nat} (h:i<17):(srC far ahd)[i]? = some (.int .i64 (far i)):=by
 unfold srC
 rw [Array.getElem?_append_left (by rw [ltA_size]; exact h),ltA_get far h]
theorem srC_ahd (far ahd:Int→Int) {i:Nat} (h:i<17):(srC far ahd)[17 + i]? = some (.int .u8 (ahd i)):=by
 unfold srC
 rw [Array.getElem?_append_right (by rw [ltA_size]; omega),ltA_size,Nat.add_sub_cancel_left,ahA_get ahd h]
theorem srC_setFar (far ahd:Int→Int) {i:Nat} (hi:i<17) (n:Int):(srC far ahd).setIfInBounds i (.int .i64 n)=srC (upI far i n) ahd:=by
 apply Array.ext_getElem?
 intro j
 by_cases e:i=j
 ·subst e
  rw [Array.getElem?_setIfInBounds_self_of_lt (by rw [srC_size]; omega),srC_far _ _ hi,upI_same]
 ·rw [Array.getElem?_setIfInBounds_ne e]
  by_cases hj:j<17
  ·rw [srC_far _ _ hj,srC_far _ _ hj,upI_ne _ (by omega)]
  ·by_cases hj2:j<34
   ·have:=srC_ahd far ahd (i:=j - 17) (by omega)
    have h2:=srC_ahd (upI far i n) ahd (i:=j - 17) (by omega)
    rw [show 17 + (j - 17)=j by omega] at this h2
    rw [this,h2]
   ·rw [Array.getElem?_eq_none (by rw [srC_size]; omega),Array.getElem?_eq_none (by rw [srC_size]; omega)]
theorem srC_setAhd (far ahd:Int→Int) {i:Nat} (hi:i<17) (n:Int):(srC far ahd).setIfInBounds (17 + i) (.int .u8 n)=srC far (upI ahd i n):=by
 apply Array.ext_getElem?
 intro j
 by_cases e:17 + i=j
 ·subst e
  rw [Array.getElem?_setIfInBounds_self_of_lt (by rw [srC_size]; omega),srC_ahd _ _ hi,upI_same]
 ·rw [Array.getElem?_setIfInBounds_ne e]
  by_cases hj:j<17
  ·rw [srC_far _ _ hj,srC_far _ _ hj]
  ·by_cases hj2:j<34
   ·have:=srC_ahd far ahd (i:=j - 17) (by omega)
    have h2:=srC_ahd far (upI ahd i n) (i:=j - 17) (by omega)
    rw [upI_ne _ (by omega)] at h2
    rw [show 17 + (j - 17)=j by omega] at this h2
    rw [this,h2]
   ·rw [Array.getElem?_eq_none (by rw [srC_size]; omega),Array.getElem?_eq_none (by rw [srC_size]; omega)]
attribute [irreducible] srC
theorem Blk.srFar {w:World} {g:Nat} {far ahd:Int→Int} {t:TypeId} (h:Blk w g (srC far ahd) t) {p:Int} (h0:0≤p) (h1:p<17):w.cell? ⟨g,p.toNat,none⟩=some (.int .i64 (far p)):=by
 rw [h.cell,srC_far _ _ (by omega),Int.toNat_of_nonneg h0]
theorem Blk.srAhd {w:World} {g:Nat} {far ahd:Int→Int} {t:TypeId} (h:Blk w g (srC far ahd) t) {p:Int} (h0:0≤p) (h1:p<17):w.cell? ⟨g,17 + p.toNat,none⟩=some (.int .u8 (ahd p)):=by
 rw [h.cell,srC_ahd _ _ (by omega),Int.toNat_of_nonneg h0]
theorem Blk.srSetFar {w:World} {g:Nat} {far ahd:Int→Int} {t:TypeId} (h:Blk w g (srC far ahd) t) {p:Int} (h0:0≤p) (h1:p<17) (n:Int):Blk (w.setCell ⟨g,p.toNat,none⟩ (.int .i64 n)) g (srC (upI far p n) ahd) t:=by
 have:=h.set p.toNat (.int .i64 n)
 rw [srC_setFar _ _ (by omega),Int.toNat_of_nonneg h0] at this
 exact this
theorem Blk.srSetAhd {w:World} {g:Nat} {far ahd:Int→Int} {t:TypeId} (h:Blk w g (srC far ahd) t) {p:Int} (h0:0≤p) (h1:p<17) (n:Int):Blk (w.setCell ⟨g,17 + p.toNat,none⟩ (.int .u8 n)) g (srC far (upI ahd p n)) t:=by
 have:=h.set (17 + p.toNat) (.int .u8 n)
 rw [srC_setAhd _ _ (by omega),Int.toNat_of_nonneg h0] at this
 exact this
def ShrtAt (w:World) (g:Nat) (es:List Ed) (k:Nat) (lv i:Value) (wr:World):Prop :=
 ∃ (j:Nat) (s:BF),j≤es.length∧i=.int .i64 j∧Hid (s=(es.take j).foldl (stepE (k + 1)) { passN es k with pt:=0 })∧lv=.int .u8 s.pt∧Blk wr g (srC s.far s.ahd) 169∧Below g w wr
set_option maxHeartbeats 8000000 in
set_option maxRecDepth 100000 in
theorem shorten_any {w:World} {g k:Nat} {ao:Option Addr} {cap:Nat} {es:List Ed} (h:Blk w g (srC (passN es k).far (passN es k).ahd) 169) (hk:k<16) (hfit:∀ e ∈ es,e.Fits) (hln:es.length≤600)
  (hes:0<es.length→∃ b off,ao=some ⟨b,off,none⟩∧b<g∧∀ m,(hm:m<es.length)→∀ j,j<3→w.cell? ⟨b,off + m * 3 + j,none⟩=es[m].vals[j]?) :
  Calls Tryz.prog 113 #[.pointer (some ⟨g,0,none⟩),.slice ao es.length cap] w fun e w'=>e=.returned (.int .u8 (passN es (k + 1)).pt)∧Blk w' g (srC (passN es (k + 1)).far (passN es (k + 1)).ahd) 169∧Below g w w':=by
 have K0:=Lib.hid h
 have HF:=Lib.hid hfit
 have HC:=Lib.hid hes
 have HB:=Lib.hid (passN_bd (es:=es) (fun e he=>(hfit e he).co.1) k)
 have hgw:=h.lt
 have CM:=Lib.hid (fun p (w:World)=>pmayP_any p w)
 clear h hfit hes
 go_enter Tryz.func113,Tryz.ntmps113
 go_wp2_with fail
 go_loopw [5,11] (ShrtAt w g es k) (fun _ i _=>es.length - (intOf i).toNat)
 case atStart=>exact ⟨0,_,by omega,rfl,Lib.hid rfl,rfl,K0.out,Below.refl _ _⟩
 case round =>
  clear K0
  obtain ⟨j,s,hj,rfl,hs,rfl,hF,hB⟩:=hrel
  have KS:=Lib.hid hF
  have BB:=Lib.hid hB
  clear hF hB
  by_cases hjl:j<es.length
  ·obtain ⟨b,off,rfl,hbg,hcell⟩:=HC.out (by omega)
   have hbw:b<w.heap.size:=by omega
   have d0:=(BB.out.cell (p:=⟨b,off + j * 3,none⟩) hbg).trans (hcell j hjl 0 (by omega))
   have d1:=(BB.out.cell (p:=⟨b,off + j * 3 + 1,none⟩) hbg).trans (hcell j hjl 1 (by omega))
   have d2:=(BB.out.cell (p:=⟨b,off + j * 3 + 2,none⟩) hbg).trans (hcell j hjl 2 (by omega))
   have hbr:=Nat.lt_of_lt_of_le hbw BB.out.size
   simp only [Ed.vals,List.getElem?_cons_zero,List.getElem?_cons_succ] at d0 d1 d2
   have hfx:=HF.out es[j] (List.getElem_mem hjl)
   have hfold:(es.take (j + 1)).foldl (stepE (k + 1)) { passN es k with pt:=0 }=stepE (k + 1) s es[j]:=by
    rw [List.take_succ_eq_append_getElem hjl,List.foldl_append,← hs.out]
    rfl
   have hbd:=far_bd (es:=es) (fun e he=>(HF.out e he).co.1) (n:=k + 1) (es.take j) { passN es k with pt:=0 } (k * es.length) (fun e he=>List.mem_of_mem_take he) HB.out
   rw [← hs.out] at hbd
   have hm:k * es.length + (es.take j).length≤9600:=by
    have h1:(es.take j).length≤j:=by simp; omega
    have h2:k * es.length≤15 * es.length:=Nat.mul_le_mul_right _ (by omega)
    omega
   have HBD:Hid (∀ p,-1228800≤s.far p∧s.far p≤0):=Lib.hid fun p=>by have:=hbd p; omega
   have HFD:=Lib.hid hfold
   generalize es[j]=x at *
   obtain ⟨fr,tt,co⟩:=x
   dsimp only at d0 d1 d2
   obtain ⟨⟨f0,f9⟩,⟨t0,t9⟩,⟨c0,c9⟩⟩:=hfx
   dsimp only at f0 f9 t0 t9 c0 c9
   have KX:=Lib.hid (Blk.new wr #[.int .u8 fr,.int .u8 tt,.int .i8 co] 141)
   have KS2:=Lib.hid (KS.out.alloc (.cells #[.int .u8 fr,.int .u8 tt,.int .i8 co] 141))
   have hgr:g<wr.heap.size:=KS.out.lt
   have BB2:=Lib.hid (BB.out.alloc (Nat.le_of_lt hgr) (.cells #[.int .u8 fr,.int .u8 tt,.int .i8 co] 141))
   have CF:=Lib.hid (CM.out fr (wr.alloc (.cells #[.int .u8 fr,.int .u8 tt,.int .i8 co] 141)))
   have CT:=Lib.hid (CM.out tt (wr.alloc (.cells #[.int .u8 fr,.int .u8 tt,.int .i8 co] 141)))
   clear hcell hfold hbd hm hs KS BB
   by_cases o1:inP fr
   ·rw [mayG_true o1] at CF
    by_cases o2:inP tt
    ·rw [mayG_true o2] at CT
     have o1':=o1
     have o2':=o2
     obtain ⟨p1,p2⟩:=o1'
     obtain ⟨p3,p4⟩:=o2'
     obtain ⟨df,hdf⟩:∃ df,s.far fr=df:=⟨_,rfl⟩
     obtain ⟨dt,hdt⟩:∃ dt,s.far tt=dt:=⟨_,rfl⟩
     have HDF:=Lib.hid hdf
     have HDT:=Lib.hid hdt
     have b1:=HBD.out fr
     have b2:=HBD.out tt
     have kf:=KS2.out.srFar (p:=fr) (by omega) (by omega)
     have kt:=KS2.out.srFar (p:=tt) (by omega) (by omega)
     rw [hdf] at b1 kf
     rw [hdt] at b2 kt
     obtain ⟨b3,b4⟩:=b1
     obtain ⟨b5,b6⟩:=b2
     have hgx:g<(wr.alloc (.cells #[.int .u8 fr,.int .u8 tt,.int .i8 co] 141)).heap.size:=KS2.out.lt
     clear hdf hdt
     go_wp2_with fail
     refine CF.out.mono ?_
     rintro e w1 ⟨rfl,rfl⟩
     clear CF
     go_wp2_with fail
     refine CT.out.mono ?_
     rintro e w1 ⟨rfl,rfl⟩
     clear CT
     go_wp2_with fail
     generalize hW:wr.alloc (.cells #[.int .u8 fr,.int .u8 tt,.int .i8 co] 141)=W at *
     have hXl:=KX.out.lt
     generalize wr.heap.size=X at *
     clear hW d0 d1 d2
     have e0:=KX.out.cell 0
     have e1:=KX.out.cell 1
     have e2:=KX.out.cell 2
     simp at e0 e1 e2
     have hgX:g<X:=hgr
     have hne:¬ X=g:=by omega
     have hne':¬ g=X:=by omega
     by_cases hless:df + co<dt
     ·have cless:decide (df + co<dt)=true:=by simpa using hless
      have NX:Hid ((⟨upI s.far tt (df + co),upI s.ahd tt fr,tt,fun p=>if p=tt then k + 1 else s.t p,upI s.w tt co⟩:BF)=(es.take (j + 1)).foldl (stepE (k + 1)) { passN es k with pt:=0 }):=Lib.hid (by
       rw [HFD.out]
       unfold stepE
       rw [if_pos ⟨⟨o1,o2⟩,by show s.far fr + co<s.far tt; rw [HDF.out,HDT.out]; exact hless⟩]
       dsimp only
       rw [HDF.out])
      have ft:=KS2.out.frozen tt.toNat
      have ka:=KS2.out.srAhd (p:=tt) (by omega) (by omega)
      have fa:=KS2.out.frozen (17 + tt.toNat)
      clear hless
      go_quiet (fail)
      go_wp2
      go_quiet (fail)
      go_wp2
      go_region
      all_goals
       go_wp2
       go_region
       all_goals
        go_wp2
        go_roundw
        case rel =>
         refine ⟨j + 1,_,by omega,by go_num,NX,rfl,?_,?_⟩
         ·refine Blk.srSetAhd ?_ (by omega) (by omega) _
          refine Blk.srSetFar ?_ (by omega) (by omega) _
          exact KS2.out
         ·refine Below.drew ?_
          refine Below.setCell (p:=⟨g,17 + tt.toNat,none⟩) ?_ (Nat.le_refl g) _
          refine Below.setCell (p:=⟨g,tt.toNat,none⟩) ?_ (Nat.le_refl g) _
          exact ⟨BB2.out.os,BB2.out.tape,BB2.out.output,BB2.out.size,BB2.out.block⟩
        case measure=>simp [intOf]; omega
     ·have cless:decide (df + co<dt)=false:=by simpa using hless
      have NX:Hid (s=(es.take (j + 1)).foldl (stepE (k + 1)) { passN es k with pt:=0 }):=Lib.hid (by
       rw [HFD.out]
       unfold stepE
       rw [if_neg (fun h=>hless (by have:=h.2; rw [HDF.out,HDT.out] at this; exact this))])
      clear hless
      go_quiet (fail)
      go_wp2
      go_quiet (fail)
      go_wp2
      go_roundw
      case rel=>exact ⟨j + 1,s,by omega,by go_num,NX,rfl,KS2.out,⟨BB2.out.os,BB2.out.tape,BB2.out.output,BB2.out.size,BB2.out.block⟩⟩
      case measure=>simp [intOf]; omega
    ·rw [mayG_false o2] at CT
     have NX:Hid (s=(es.take (j + 1)).foldl (stepE (k + 1)) { passN es k with pt:=0 }):=Lib.hid (by
      rw [HFD.out]
      unfold stepE
      rw [if_neg (fun h=>o2 h.1.2)])
     clear o1 o2
     go_wp2_with fail
     refine CF.out.mono ?_
     rintro e w1 ⟨rfl,rfl⟩
     clear CF
     go_wp2_with fail
     refine CT.out.mono ?_
     rintro e w1 ⟨rfl,rfl⟩
     clear CT
     go_wp2_with fail
     go_roundw
     case rel=>exact ⟨j + 1,s,by omega,by go_num,NX,rfl,KS2.out,BB2.out⟩
     case measure=>simp [intOf]; omega
   ·rw [mayG_false o1] at CF
    have NX:Hid (s=(es.take (j + 1)).foldl (stepE (k + 1)) { passN es k with pt:=0 }):=Lib.hid (by
     rw [HFD.out]
     unfold stepE
     rw [if_neg (fun h=>o1 h.1.1)])
    clear o1 CT
    go_wp2_with fail
    refine CF.out.mono ?_
    rintro e w1 ⟨rfl,rfl⟩
    clear CF
    go_wp2_with fail
    go_roundw
    case rel=>exact ⟨j + 1,s,by omega,by go_num,NX,rfl,KS2.out,BB2.out⟩
    case measure=>simp [intOf]; omega
  ·have hjj:es.take j=es:=List.take_of_length_le (by omega)
   rw [hjj] at hs
   have hE:s=passN es (k + 1):=hs.out
   subst hE
   clear hs hjj
   go_wp2_with fail
   go_ret
   exact ⟨rfl,KS.out,BB.out⟩
end Go.Proofs.YtlbjjkbppbmihaaGreat
namespace Go.Proofs.YtlbjjkbppbmihaaGreat
open Go.RowKit
theorem zero_search:(∀ w,(zeroValue 169).run Tryz.prog w=.ok (.agg (srC (fun _=>0) (fun _=>0))) w)∧(Tryz.prog.info? 169).map (·.size)=some 34:=by
 have h:srC (fun _=>0) (fun _=>0)=#[.int .i64 0,.int .i64 0,.int .i64 0,.int .i64 0,.int .i64 0,.int .i64 0,.int .i64 0,.int .i64 0,.int .i64 0,.int .i64 0,.int .i64 0,.int .i64 0,.int .i64 0,.int .i64 0,.int .i64 0,.int .i64 0,.int .i64 0,
   .int .u8 0,.int .u8 0,.int .u8 0,.int .u8 0,.int .u8 0,.int .u8 0,.int .u8 0,.int .u8 0,.int .u8 0,.int .u8 0,.int .u8 0,.int .u8 0,.int .u8 0,.int .u8 0,.int .u8 0,.int .u8 0,.int .u8 0]:=by
  apply Array.ext (by rw [srC_size]; rfl)
  intro i h1 h2
  have h34:i<34:=by rw [srC_size] at h1; exact h1
  have e:(srC (fun _=>0) (fun _=>0))[i]=if i<17 then .int .i64 0 else .int .u8 0:=by
   have q:(srC (fun _=>0) (fun _=>0))[i]? = some (if i<17 then Value.int .i64 0 else .int .u8 0):=by
    by_cases hi:i<17
    ·rw [srC_far _ _ hi,if_pos hi]
    ·have:=srC_ahd (fun _=>0) (fun _=>0) (i:=i - 17) (by omega)
     rw [show 17 + (i - 17)=i by omega] at this
     rw [this,if_neg hi]
   rw [Array.getElem?_eq_getElem h1] at q
   simpa using q
  rw [e]
  have hi:i=0∨i=1∨i=2∨i=3∨i=4∨i=5∨i=6∨i=7∨i=8∨i=9∨i=10∨i=11∨i=12∨i=13∨i=14∨i=15∨i=16∨i=17∨i=18∨i=19∨i=20∨i=21∨i=22∨i=23∨i=24∨i=25∨i=26∨i=27∨i=28∨i=29∨i=30∨i=31∨i=32∨i=33:=by omega
  rcases hi with rfl | rfl | rfl | rfl | rfl | rfl | rfl | rfl | rfl | rfl | rfl | rfl | rfl | rfl | rfl | rfl | rfl | rfl | rfl | rfl | rfl | rfl | rfl | rfl | rfl | rfl | rfl | rfl | rfl | rfl | rfl | rfl | rfl | rfl <;> rfl
 rw [h]
 exact zero_of_info (by kernel_rfl)
theorem roundW_go {es:List Ed} (h:∀ n,n<16→(passN es (n + 1)).pt≠0):roundW es≠[]:=by
 unfold roundW
 rw [if_pos (List.all_eq_true.2 fun n hn=>by simpa using h n (by simpa using hn))]
 unfold roundL backL
 simp
theorem chainL_mem {f:Int→Int} {p x:Int} {n:Nat}:x ∈ chainL f p n↔∃ i,i<n∧itr f i p=x:=by unfold chainL; simp
theorem chainL_backL {f:Int→Int} {l:Int} {K:Nat} (h1:1≤K) (hK:itr f K l=l):chainL f (f l) K=backL f l (K - 1):=by
 obtain ⟨n,rfl⟩:∃ n,K=n + 1:=⟨K - 1,by omega⟩
 rw [chainL_succ]
 show itr f (n + 1) l::_=_
 rw [hK]
 rfl
theorem least_is {f:Int→Int} {a m:Int} {K:Nat} (h1:1≤K) (hm:m ∈ chainL f a K) (hle:∀ x ∈ chainL f a K,m≤x):m=leastC f a (K - 1):=by
 obtain ⟨i,i1,i2⟩:=leastC_mem f a (K - 1)
 obtain ⟨j,j1,j2⟩:=chainL_mem.1 hm
 have a1:=hle (leastC f a (K - 1)) (chainL_mem.2 ⟨i,by omega,i2.symm⟩)
 have a2:=leastC_le f a (K - 1) j (by omega)
 omega
def RdAt (w:World) (es:List Ed) (lv i:Value) (wr:World):Prop :=
 ∃ k:Nat,k<16∧i=.int .i64 ((k:Int) + 1)∧(∀ j,j<k→(passN es (j + 1)).pt≠0)∧Blk wr w.heap.size (srC (passN es k).far (passN es k).ahd) 169∧Below w.heap.size w wr
def HpAt (w:World) (s:BF) (lv i:Value) (wr:World):Prop :=
 ∃ j:Nat,j≤16∧i=.int .i64 j∧lv=.int .u8 (itr s.ahd j s.pt)∧Blk wr w.heap.size (srC s.far s.ahd) 169∧Below w.heap.size w wr
set_option maxHeartbeats 8000000 in
set_option maxRecDepth 100000 in
theorem pround_any {w:World} {ao:Option Addr} {cap:Nat} {es:List Ed} (hr:Reads w (.slice ao es.length cap) 3 es.length (edCells es)) (hfit:∀ e ∈ es,e.Fits) (hln:es.length≤600) :
  Calls Tryz.prog 89 #[.slice ao es.length cap] w (RowPost 30 (roundW es) w):=by
 obtain ⟨ao',cap',hv,_,_,hcell⟩:=hr
 cases hv
 have HC:Hid (0<es.length→∃ b off,ao=some ⟨b,off,none⟩∧b<w.heap.size∧∀ m,(hm:m<es.length)→∀ j,j<3→w.cell? ⟨b,off + m * 3 + j,none⟩=es[m].vals[j]?):=Lib.hid fun h0=>by
  obtain ⟨b,off,h1,h2,h3⟩:=hcell h0
  refine ⟨b,off,h1,h2,fun m hm j hj=>?_⟩
  have:=h3 (m * 3 + j) (by omega)
  rw [edCells_get es m j hj hm] at this
  rw [← this,Nat.add_assoc]
 have HF:=Lib.hid hfit
 clear hcell hfit
 have hz:=zero_search.1
 have B0:=Lib.hid ((Below.refl w.heap.size w).alloc (Nat.le_refl _) (.cells (srC (fun _=>0) (fun _=>0)) 169))
 have K0:=Lib.hid (Blk.new w (srC (fun _=>0) (fun _=>0)) 169)
 go_enter Tryz.func89,Tryz.ntmps89
 go_wp2_with fail
 go_step3
 go_wp2_with fail
 go_step3
 go_wp2_with fail
 go_loopw [4,5] (RdAt w es) (fun _ i _=>17 - (intOf i).toNat)
 case atStart=>exact ⟨0,by omega,rfl,fun j h=>by omega,K0.out,B0.out⟩
 case round =>
  clear K0 B0 hz
  obtain ⟨k,hk,rfl,hall,hK,hB⟩:=hrel
  have KS:=Lib.hid hK
  have BB:=Lib.hid hB
  have HALL:=Lib.hid hall
  clear hK hB hall
  have CS:=Lib.hid (shorten_any (cap:=cap) KS.out hk HF.out hln (fun h0=>by
   obtain ⟨b,off,h1,h2,h3⟩:=HC.out h0
   exact ⟨b,off,h1,h2,fun m hm j hj=>(BB.out.cell (p:=⟨b,off + m * 3 + j,none⟩) h2).trans (h3 m hm j hj)⟩))
  go_wp2_with fail
  refine CS.out.mono ?_
  rintro e w1 ⟨rfl,hK1,hB1⟩
  have KS1:=Lib.hid hK1
  have B1:=Lib.hid (BB.out.trans hB1)
  clear hK1 hB1 CS KS BB
  by_cases hpt:(passN es (k + 1)).pt=0
  ·have q0:((passN es (k + 1)).pt==0)=true:=by simpa using hpt
   have HL:=Lib.hid (roundW_stop hk hpt)
   clear hpt
   generalize (passN es (k + 1)).pt=pt at *
   go_wp2_with fail
   rw [Exit.noGoto_ret]
   refine bodyPost_ret (v:=.slice none 0 0) (by simp [results,Tryz.results89,go_sem]) rfl ?_
   rw [HL.out]
   exact ⟨_,rfl,⟨rfl,.inl ⟨rfl,rfl⟩⟩,B1.out⟩
  ·have q0:((passN es (k + 1)).pt==0)=false:=by simpa using hpt
   have HALL1:Hid (∀ j,j<k + 1→(passN es (j + 1)).pt≠0):=Lib.hid fun j hj=>by
    by_cases e:j=k
    ·subst e; exact hpt
    ·exact HALL.out j (by omega)
   clear hpt HALL
   by_cases hk15:k=15
   ·subst hk15
    have hne:=roundW_go (fun n hn=>HALL1.out n (by omega))
    obtain ⟨K,l,hK,hl,hin,hR,hW⟩:=roundW_some hne
    have hpt16:(passN es 16).pt≠0:=HALL1.out 15 (by omega)
    have HFND:=Lib.hid (round_found hpt16).1
    have HCY:=Lib.hid (cycK_spec (round_found hpt16).2)
    have KS2:Hid (Blk w1 w.heap.size (srC (passN es 16).far (passN es 16).ahd) 169):=Lib.hid KS1.out
    have q1:((passN es 16).pt==0)=false:=q0
    have E15:(passN es (15 + 1)).pt=(passN es 16).pt:=rfl
    clear q0 hne hpt16 HALL1 KS1
    simp only [E15]
    have HIN:=Lib.hid hin
    have HR:=Lib.hid hR
    have HW:=Lib.hid hW
    have HK:=Lib.hid hK
    have HL:=Lib.hid hl
    clear hin hR hW E15 hK hl
    generalize passN es 16=s at *
    go_wp2_with fail
    go_loopw [4,17] (HpAt w s) (fun _ i _=>16 - (intOf i).toNat)
    case atStart=>exact ⟨0,by omega,rfl,rfl,KS2.out,B1.out⟩
    case round =>
     clear KS2 B1
     obtain ⟨j,hj,rfl,rfl,hK1,hB1⟩:=hrel
     have KS:=Lib.hid hK1
     have BB:=Lib.hid hB1
     have hgl:=hK1.lt
     clear hK1 hB1
     by_cases hj16:j<16
     ·obtain ⟨x1,x2⟩:=HFND.out j (by omega)
      have IS:=Lib.hid (itr_succ s.ahd j s.pt)
      generalize itr s.ahd j s.pt=x at *
      have dk:=KS.out.srAhd (p:=x) (by omega) (by omega)
      have hji:(j:Int)<16:=by omega
      go_wp2_with fail
      go_roundw
      case rel=>exact ⟨j + 1,by omega,by go_num,by rw [IS.out],KS.out,BB.out⟩
      case measure=>simp [intOf]; omega
     ·obtain rfl:j=16:=by omega
      obtain ⟨c1,c2,c3,c4⟩:=HCY.out
      have e1:=HK.out
      have e2:=HL.out
      have hin:=HIN.out
      generalize itr s.ahd 16 s.pt=a at *
      rw [← e1] at c1 c2 c3 c4
      have CT:=Lib.hid (turned_any (w:=wr) (g:=w.heap.size) (off:=17) (ah:=s.ahd) (p:=a) (n:=K) hgl (fun c hc=>by rw [KS.out.cell,srC_ahd _ _ hc]) (fun i _=>hin i)
       (fun i j hij hj=>by
        rcases Nat.eq_zero_or_pos i with h0 | h0
        ·subst h0; exact fun e=>c4 j (by omega) hj e.symm
        ·exact itr_inj c3 c4 h0 hij (by omega)) (.inr ⟨0,by omega,c3.symm⟩) c1 c2)
      have LM:Hid (∀ m,m ∈ chainL s.ahd a K→(∀ x ∈ chainL s.ahd a K,m≤x)→m=l):=Lib.hid fun m h1 h2=>by rw [least_is c1 h1 h2,e2]
      have LL:=Lib.hid (chainL_len s.ahd a K)
      generalize chainL s.ahd a K=L at *
      have C1:=Lib.hid c1
      have C2:=Lib.hid c2
      clear c1 c2 c3 c4 e1 e2 hin HFND HCY HK HL HIN
      go_wp2_with fail
      refine CT.out.mono ?_
      rintro e w2 ⟨v1,rfl,hrow,hb2⟩
      have KS2:=Lib.hid (KS.out.below hb2 hgl)
      have B2:=Lib.hid (BB.out.trans (hb2.mono BB.out.size))
      have CM:=Lib.hid (minP_any (hrow.reads (by rw [LL.out]; have:=C2.out; omega)) (by rw [LL.out]; have:=C1.out; omega))
      clear CT hrow hb2 KS BB
      go_wp2_with fail
      refine CM.out.mono ?_
      rintro e w3 ⟨m,rfl,hm1,hm2,rfl⟩
      obtain rfl:=LM.out m hm1 hm2
      obtain ⟨m1,m2⟩:=HR.out.ends 0
      have m1:1≤m:=m1
      have m2:m≤16:=m2
      have dk:=KS2.out.srAhd (p:=m) (by omega) (by omega)
      have hg3:=KS2.out.lt
      have CT:=Lib.hid (turned_any (w:=w3) (g:=w.heap.size) (off:=17) (ah:=s.ahd) (p:=s.ahd m) (n:=K) hg3 (fun c hc=>by rw [KS2.out.cell,srC_ahd _ _ hc]) (fun i _=>HR.out.ends (i + 1))
       (fun i j hij hj=>itr_inj HR.out.back HR.out.apart (i:=i + 1) (k:=j + 1) (by omega) (by omega) (by omega)) (.inr ⟨0,by have:=C1.out; omega,by
        show s.ahd m=itr s.ahd (K + 1) m
        rw [itr_succ,HR.out.back]⟩) C1.out C2.out)
      rw [chainL_backL C1.out HR.out.back,← HW.out] at CT
      clear CM hm1 hm2 LM LL
      generalize roundW es=R at *
      generalize s.ahd m=y at *
      go_wp2_with fail
      refine CT.out.mono ?_
      rintro e w4 ⟨v2,rfl,hrow,hb4⟩
      have R4:=Lib.hid (hrow.base (b':=w.heap.size) (Nat.le_of_lt hg3))
      have B4:=Lib.hid (B2.out.trans (hb4.mono B2.out.size))
      clear CT hrow hb4
      go_wp2_with fail
      rw [Exit.noGoto_ret]
      refine bodyPost_ret (v:=v2) (by simp [results,Tryz.results89,go_sem]) rfl ?_
      exact ⟨v2,rfl,R4.out,B4.out⟩
   ·have hk2:((k:Int) + 1==16)=false:=by simp; omega
    generalize (passN es (k + 1)).pt=pt at *
    go_wp2_with fail
    go_roundw
    case rel=>exact ⟨k + 1,by omega,by go_num,HALL1.out,KS1.out,B1.out⟩
    case measure=>simp [intOf]; omega
end Go.Proofs.YtlbjjkbppbmihaaGreat
