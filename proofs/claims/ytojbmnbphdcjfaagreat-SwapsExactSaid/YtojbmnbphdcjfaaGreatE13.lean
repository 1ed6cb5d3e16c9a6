/-
  Pieces of one proof, without what is not wanted: Made, Lives05, GraphsPair, PayMath.
-/
import Derived.Test.YtojbmnbphdcjfaaGreatE05
import Derived.Test.YtojbmnbphdcjfaaGreatE06
import Derived.Test.YtojbmnbphdcjfaaGreatE10
import Derived.Test.YtojbmnbphdcjfaaGreatE12
set_option linter.unusedSimpArgs false
set_option linter.unusedVariables false
namespace Go.Proofs.YtojbmnbphdcjfaaGreat
open Go.RowKit
def actL (x:Ac) (σ:List Int × List Ln):List Int × List Ln :=
 if x.k % 8=0 then (openP σ.1 x.a,σ.2) else if x.k % 8≤2 then (σ.1,trustL σ.1 σ.2 x.a x.b x.c x.n) else if x.k % 8≤5 then (σ.1,pushL σ.1 σ.2 x.a x.b x.c x.n) else if x.k % 8=6 then (σ.1,forgiveL σ.2 x.a x.b x.c x.n) else σ
def actsL (xs:List Ac):List Int × List Ln:=xs.foldl (fun σ x=>actL x σ) ([],[])
theorem actsL_next {xs:List Ac} {k:Nat} (h:k<xs.length) {ps:List Int} {ls:List Ln} (e:actsL (xs.take k)=(ps,ls)):actsL (xs.take (k + 1))=actL xs[k] (ps,ls):=by
 unfold actsL at *
 rw [List.take_succ_eq_append_getElem h,List.foldl_append,e]
 rfl
def MadeAt (w:World) (G M len:Nat) (xs:List Ac) (i:Value) (wr:World):Prop :=
 ∃ k:Nat,k≤len∧i=.int .i64 k∧∃ ps ls,LedM wr G M ps ls∧LInv ps ls∧Below w.heap.size w wr∧Hid (actsL (xs.take k)=(ps,ls))
def MadePostF (w:World) (xs:List Ac) (e:Ending) (w':World):Prop :=
 ∃ G M ps ls,e=.returned (.pointer (some ⟨G,0,none⟩))∧LedM w' G M ps ls∧LInv ps ls∧w.heap.size≤G∧w.heap.size≤M∧Below w.heap.size w w'∧actsL xs=(ps,ls)
set_option maxHeartbeats 8000000 in
set_option maxRecDepth 100000 in
theorem made_actsF {w:World} {a:Option Addr} {len cap:Nat} {xs:List Ac} (h:ActsIn w a len cap xs) (hl:len≤120) :
  Calls Tryz.prog 31 #[.slice a len cap] w (MadePostF w xs):=by
 have HA:=Lib.hid h
 have hxl:xs.length=len:=h.1
 have hcap:=h.2.2.1
 have hmax:=h.2.2.2.1
 unfold maxLen at hmax
 clear h
 go_enter Tryz.func31,Tryz.ntmps31
 go_wp2_with fail
 refine (new_any w).mono ?_
 rintro e w0 ⟨G,M,rfl,h0,hG,hM,hb0⟩
 have H0:=Lib.hid h0
 have B0:=Lib.hid hb0
 clear h0 hb0
 go_wp2_with fail
 go_loopw [4] (MadeAt w G M len xs) (fun i _=>len - (intOf i).toNat)
 case atStart=>exact ⟨0,Nat.zero_le _,rfl,[],[],H0.out,LInv.nil,B0.out,Lib.hid rfl⟩
 case round =>
  obtain ⟨k,hk,rfl,ps,ls,hL,hI,hB,hAct⟩:=hrel
  have HL:=Lib.hid hL
  have HI:=Lib.hid hI
  have HB:=Lib.hid hB
  clear hL hI hB
  by_cases hkl:k<len
  ·obtain ⟨b,off,rfl,hb,d0,d1,d2,d3,d4⟩:=(HA.out.below HB.out).at (i:=k) (by omega)
   have hx:=HA.out.2.1 xs[k] (List.getElem_mem _)
   have AT:=Lib.hid (actsL_next (by omega) hAct.out)
   generalize hxe:xs[k]=x at *
   clear hxe
   obtain ⟨k1,k2⟩:=hx.k
   have bw:=(Below.refl wr.heap.size wr).alloc (Nat.le_refl _) (.cells #[.int .u8 x.k,.int .u8 x.a,.int .u8 x.b,.int .u8 x.c,.int .i64 x.n] 92)
   have HW:=Lib.hid (HL.out.below bw)
   have BW:=Lib.hid (HB.out.trans (bw.mono HB.out.size))
   clear bw
   have hs:x.k % 8=0∨x.k % 8=1∨x.k % 8=2∨x.k % 8=3∨x.k % 8=4∨x.k % 8=5∨x.k % 8=6∨x.k % 8=7:=by omega
   rcases hs with hj | hj | hj | hj | hj | hj | hj | hj
   ·have AN:=Lib.hid (AT.out.trans (show actL x (ps,ls)=(openP ps x.a,ls) by unfold actL; simp [hj]))
    have q1:x.k % 8=0:=hj
    have q2:x.k.tmod 8=0:=by rw [Int.tmod_eq_emod_of_nonneg hx.k.1]; exact hj
    clear hj
    have C:=Lib.hid (open_any HW.out HI.out.bd x.a)
    have HI2:=Lib.hid (LInv.open HI.out x.a)
    clear hx
    go_wp2_with fail
    refine C.out.mono ?_
    rintro e w2 ⟨rfl,h2,k2⟩
    have H2:=Lib.hid h2
    have B2:=Lib.hid (BW.out.trans (k2.below BW.out.size (fun b hb e=>by omega)))
    clear h2 k2 C
    go_wp2_with fail
    go_roundw
    case rel=>exact ⟨k + 1,by omega,by go_num,_,_,H2.out,HI2.out,B2.out,AN⟩
    case measure=>simp [intOf]; omega
   ·have AN:=Lib.hid (AT.out.trans (show actL x (ps,ls)=(ps,trustL ps ls x.a x.b x.c x.n) by unfold actL; simp [hj]))
    have q1:x.k % 8=1:=hj
    have q2:x.k.tmod 8=1:=by rw [Int.tmod_eq_emod_of_nonneg hx.k.1]; exact hj
    clear hj
    have C:=Lib.hid (ptrust_any (a:=x.a) (b:=x.b) (c:=x.c) (n:=x.n) HW.out HI.out hx.a hx.b hx.c)
    have HI2:=Lib.hid (LInv.trust HI.out x.a x.b x.c x.n)
    clear hx
    go_wp2_with fail
    refine C.out.mono ?_
    rintro e w2 ⟨rfl,h2,k2⟩
    have H2:=Lib.hid h2
    have B2:=Lib.hid (BW.out.trans (k2.below BW.out.size (fun b hb e=>by omega)))
    clear h2 k2 C
    go_wp2_with fail
    go_roundw
    case rel=>exact ⟨k + 1,by omega,by go_num,_,_,H2.out,HI2.out,B2.out,AN⟩
    case measure=>simp [intOf]; omega
   ·have AN:=Lib.hid (AT.out.trans (show actL x (ps,ls)=(ps,trustL ps ls x.a x.b x.c x.n) by unfold actL; simp [hj]))
    have q1:x.k % 8=2:=hj
    have q2:x.k.tmod 8=2:=by rw [Int.tmod_eq_emod_of_nonneg hx.k.1]; exact hj
    clear hj
    have C:=Lib.hid (ptrust_any (a:=x.a) (b:=x.b) (c:=x.c) (n:=x.n) HW.out HI.out hx.a hx.b hx.c)
    have HI2:=Lib.hid (LInv.trust HI.out x.a x.b x.c x.n)
    clear hx
    go_wp2_with fail
    refine C.out.mono ?_
    rintro e w2 ⟨rfl,h2,k2⟩
    have H2:=Lib.hid h2
    have B2:=Lib.hid (BW.out.trans (k2.below BW.out.size (fun b hb e=>by omega)))
    clear h2 k2 C
    go_wp2_with fail
    go_roundw
    case rel=>exact ⟨k + 1,by omega,by go_num,_,_,H2.out,HI2.out,B2.out,AN⟩
    case measure=>simp [intOf]; omega
   ·have AN:=Lib.hid (AT.out.trans (show actL x (ps,ls)=(ps,pushL ps ls x.a x.b x.c x.n) by unfold actL; simp [hj]))
    have q1:x.k % 8=3:=hj
    have q2:x.k.tmod 8=3:=by rw [Int.tmod_eq_emod_of_nonneg hx.k.1]; exact hj
    clear hj
    have C:=Lib.hid (ppush_any (a:=x.a) (b:=x.b) (c:=x.c) (n:=x.n) HW.out HI.out hx.a hx.b hx.c hx.n)
    have HI2:=Lib.hid (LInv.push HI.out x.a x.b x.c x.n)
    clear hx
    go_wp2_with fail
    refine C.out.mono ?_
    rintro e w2 ⟨rfl,h2,k2⟩
    have H2:=Lib.hid h2
    have B2:=Lib.hid (BW.out.trans (k2.below BW.out.size (fun b hb e=>by omega)))
    clear h2 k2 C
    go_wp2_with fail
    go_roundw
    case rel=>exact ⟨k + 1,by omega,by go_num,_,_,H2.out,HI2.out,B2.out,AN⟩
    case measure=>simp [intOf]; omega
   ·have AN:=Lib.hid (AT.out.trans (show actL x (ps,ls)=(ps,pushL ps ls x.a x.b x.c x.n) by unfold actL; simp [hj]))
    have q1:x.k % 8=4:=hj
    have q2:x.k.tmod 8=4:=by rw [Int.tmod_eq_emod_of_nonneg hx.k.1]; exact hj
    clear hj
    have C:=Lib.hid (ppush_any (a:=x.a) (b:=x.b) (c:=x.c) (n:=x.n) HW.out HI.out hx.a hx.b hx.c hx.n)
    have HI2:=Lib.hid (LInv.push HI.out x.a x.b x.c x.n)
    clear hx
    go_wp2_with fail
    refine C.out.mono ?_
    rintro e w2 ⟨rfl,h2,k2⟩
    have H2:=Lib.hid h2
    have B2:=Lib.hid (BW.out.trans (k2.below BW.out.size (fun b hb e=>by omega)))
    clear h2 k2 C
    go_wp2_with fail
    go_roundw
    case rel=>exact ⟨k + 1,by omega,by go_num,_,_,H2.out,HI2.out,B2.out,AN⟩
    case measure=>simp [intOf]; omega
   ·have AN:=Lib.hid (AT.out.trans (show actL x (ps,ls)=(ps,pushL ps ls x.a x.b x.c x.n) by unfold actL; simp [hj]))
    have q1:x.k % 8=5:=hj
    have q2:x.k.tmod 8=5:=by rw [Int.tmod_eq_emod_of_nonneg hx.k.1]; exact hj
    clear hj
    have C:=Lib.hid (ppush_any (a:=x.a) (b:=x.b) (c:=x.c) (n:=x.n) HW.out HI.out hx.a hx.b hx.c hx.n)
    have HI2:=Lib.hid (LInv.push HI.out x.a x.b x.c x.n)
    clear hx
    go_wp2_with fail
    refine C.out.mono ?_
    rintro e w2 ⟨rfl,h2,k2⟩
    have H2:=Lib.hid h2
    have B2:=Lib.hid (BW.out.trans (k2.below BW.out.size (fun b hb e=>by omega)))
    clear h2 k2 C
    go_wp2_with fail
    go_roundw
    case rel=>exact ⟨k + 1,by omega,by go_num,_,_,H2.out,HI2.out,B2.out,AN⟩
    case measure=>simp [intOf]; omega
   ·have AN:=Lib.hid (AT.out.trans (show actL x (ps,ls)=(ps,forgiveL ls x.a x.b x.c x.n) by unfold actL; simp [hj]))
    have q1:x.k % 8=6:=hj
    have q2:x.k.tmod 8=6:=by rw [Int.tmod_eq_emod_of_nonneg hx.k.1]; exact hj
    clear hj
    have C:=Lib.hid (forgive_any (a:=x.a) (b:=x.b) (c:=x.c) (n:=x.n) HW.out HI.out.inv hx.a hx.b hx.c hx.n)
    have HI2:=Lib.hid (LInv.forgive HI.out x.a x.b x.c x.n)
    clear hx
    go_wp2_with fail
    refine C.out.mono ?_
    rintro e w2 ⟨rfl,h2,k2⟩
    have H2:=Lib.hid h2
    have B2:=Lib.hid (BW.out.trans (k2.below BW.out.size (fun b hb e=>by omega)))
    clear h2 k2 C
    go_wp2_with fail
    go_roundw
    case rel=>exact ⟨k + 1,by omega,by go_num,_,_,H2.out,HI2.out,B2.out,AN⟩
    case measure=>simp [intOf]; omega
   ·have AN:=Lib.hid (AT.out.trans (show actL x (ps,ls)=(ps,ls) by unfold actL; simp [hj]))
    have q1:x.k % 8=7:=hj
    have q2:x.k.tmod 8=7:=by rw [Int.tmod_eq_emod_of_nonneg hx.k.1]; exact hj
    clear hj
    clear hx
    go_wp2_with fail
    go_roundw
    case rel=>exact ⟨k + 1,by omega,by go_num,ps,ls,HW.out,HI.out,BW.out,AN⟩
    case measure=>simp [intOf]; omega
  ·go_wp2_with fail
   refine bodyPost_ret (v:=.pointer (some ⟨G,0,none⟩)) (by simp [results,Tryz.results31,go_sem]) rfl ?_
   exact ⟨G,M,ps,ls,rfl,HL.out,HI.out,hG,hM,HB.out,by have:=hAct.out; rwa [List.take_of_length_le (by omega)] at this⟩
end Go.Proofs.YtojbmnbphdcjfaaGreat
namespace Go.Proofs.YtojbmnbphdcjfaaGreat
open Go.RowKit
theorem rowed_shape {w:World} {base:Nat} {e:TypeId} {size:Nat} {v:Value} {n:Nat} {xs:List Value} (h:Rowed w base e size v n xs) :
  ∃ (ao:Option Addr),v=.slice ao n n∧(0<n→∃ g,ao=some ⟨g,0,none⟩∧base≤g∧g<w.heap.size∧∀ j,j<n * size→w.cell? ⟨g,j,none⟩=xs[j]?):=by
 obtain ⟨h1,h2⟩:=h
 rcases h2 with ⟨rfl,rfl⟩ | ⟨g,cur,rfl,hb,hg,h3,h4,h5⟩
 ·exact ⟨none,rfl,fun h=>absurd h (by omega)⟩
 ·refine ⟨some ⟨g,0,none⟩,rfl,fun _=>⟨g,rfl,hb,lt_of_block hg,fun j hj=>?_⟩⟩
  have:w.cell? ⟨g,j,none⟩=cur[j]? := by simp [World.cell?,hg]
  rw [this,← h5,List.getElem?_take_of_lt hj,Array.getElem?_toList]
end Go.Proofs.YtojbmnbphdcjfaaGreat
namespace Go.Proofs.YtojbmnbphdcjfaaGreat
open Go.RowKit
def roomF (ps:List Int) (ls:List Ln) (c a b:Int):Int:=roomL ps ls a b c
theorem roomF_inv {ps:List Int} {ls:List Ln} (h:LInv ps ls) (c:Int):GInv (roomF ps ls c) 4398046511104:=by
 refine ⟨fun p q=>(roomL_bd h.inv.good p q c).1,fun p q=>?_,fun p q hi=>?_,fun p=>?_⟩
 ·have h1:=(roomL_bd (ps:=ps) h.inv.good p q c).2
  have h2:=(roomL_bd (ps:=ps) h.inv.good q p c).2
  unfold roomF
  omega
 ·unfold roomF roomL
  rw [if_pos]
  by_cases h1:p ∈ ps
  ·by_cases h2:q ∈ ps
   ·exact absurd ⟨h.bd p h1,h.bd q h2⟩ hi
   ·exact .inr (.inr h2)
  ·exact .inr (.inl h1)
 ·unfold roomF roomL
  rw [if_pos (.inl rfl)]
theorem gof_led {w:World} {G M:Nat} {ps:List Int} {ls:List Ln} (h:LedM w G M ps ls) (hI:LInv ps ls) {c:Int} (hc:In8 c) :
  Calls Tryz.prog 175 #[.pointer (some ⟨G,0,none⟩),.int .u8 c] w fun e w'=>e=.returned (.pointer (some ⟨w.heap.size,0,none⟩))∧Blk w' w.heap.size (graC (roomF ps ls c) true) 271∧Below w.heap.size w w' :=
 gof_any fun w' k p q hp hq=>room_any (h.below k) hI hp hq hc
end Go.Proofs.YtojbmnbphdcjfaaGreat
namespace Go.Proofs.YtojbmnbphdcjfaaGreat
theorem room_other {ps:List Int} {ls:List Ln} (h:Inv ls) {a b c n:Int} (h1:1≤n) (hr:n≤roomL ps ls a b c) {p q d:Int}
  (k1:¬ (a=p∧b=q∧c=d)) (k2:¬ (a=q∧b=p∧c=d)):roomL ps (pushTo ls a b c n) p q d=roomL ps ls p q d:=by
 have hz:¬ (a=b∨a ∉ ps∨b ∉ ps):=by
  intro hz
  unfold roomL at hr
  rw [if_pos hz] at hr
  omega
 have hr2:=hr
 unfold roomL at hr2
 rw [if_neg hz] at hr2
 obtain ⟨_,_,h3,_⟩:=push_done h (fun e=>hz (.inl e)) h1 hr2
 have e1:lnAt (pushTo ls a b c n) p q d=lnAt ls p q d:=by
  unfold lnAt
  rw [h3 p q d,if_neg k1,if_neg (fun e=>k2 ⟨e.2.1,e.1,e.2.2⟩)]
 have e2:lnAt (pushTo ls a b c n) q p d=lnAt ls q p d:=by
  unfold lnAt
  rw [h3 q p d,if_neg k2,if_neg (fun e=>k1 ⟨e.2.1,e.1,e.2.2⟩)]
 unfold roomL
 rw [e1,e2]
theorem room_push {ps:List Int} {ls:List Ln} (h:LInv ps ls) (a b c n:Int):roomF ps (pushL ps ls a b c n) c=gPushF (roomF ps ls c) a b n:=by
 funext p q
 unfold gPushF
 by_cases hc:1≤n∧n≤roomF ps ls c a b
 ·rw [if_pos hc]
  obtain ⟨h1,h2⟩:=hc
  have h2':n≤roomL ps ls a b c:=h2
  have he:pushE ps ls a b c n=0:=by unfold pushE; rw [if_neg (by omega),if_neg (by omega)]
  have hl:pushL ps ls a b c n=pushTo ls a b c n:=by unfold pushL; rw [if_pos he]
  rw [hl]
  obtain ⟨r1,r2⟩:=push_room (ps:=ps) h.inv h1 h2'
  unfold pushF roomF
  by_cases c1:p=b∧q=a
  ·rw [if_pos c1,c1.1,c1.2]; exact r2
  ·rw [if_neg c1]
   by_cases c2:p=a∧q=b
   ·rw [if_pos c2,c2.1,c2.2]; exact r1
   ·rw [if_neg c2]
    exact room_other h.inv h1 h2' (fun e=>c2 ⟨e.1.symm,e.2.1.symm⟩) (fun e=>c1 ⟨e.2.1.symm,e.1.symm⟩)
 ·rw [if_neg hc]
  have he:pushE ps ls a b c n≠0:=by
   unfold pushE
   have hc':¬ (1≤n∧n≤roomL ps ls a b c):=hc
   split
   ·decide
   ·split
    ·decide
    ·exact absurd ⟨by omega,by omega⟩ hc'
  unfold pushL
  rw [if_neg he]
theorem room_else {ps:List Int} {ls:List Ln} (h:LInv ps ls) (a b n:Int) {c d:Int} (hd:c≠d):roomF ps (pushL ps ls a b c n) d=roomF ps ls d:=by
 funext p q
 unfold pushL
 by_cases he:pushE ps ls a b c n=0
 ·rw [if_pos he]
  have h1:1≤n∧n≤roomL ps ls a b c:=by unfold pushE at he; (repeat' split at he) <;> omega
  exact room_other h.inv h1.1 h1.2 (fun e=>hd e.2.2) (fun e=>hd e.2.2)
 ·rw [if_neg he]
end Go.Proofs.YtojbmnbphdcjfaaGreat
namespace Go.Proofs.YtojbmnbphdcjfaaGreat
def pushAll (ps:List Int) (c:Int) (ls:List Ln) (l:List Fw):List Ln:=l.foldl (fun ls x=>pushL ps ls x.fr x.tt c x.am) ls
theorem pushAll_take {ps:List Int} {c:Int} {ls:List Ln} {l:List Fw} {k:Nat} (h:k<l.length):pushAll ps c ls (l.take (k + 1))=pushL ps (pushAll ps c ls (l.take k)) l[k].fr l[k].tt c l[k].am:=by
 unfold pushAll
 rw [List.take_succ_eq_append_getElem h,List.foldl_append]
 rfl
theorem pushAll_inv {ps:List Int} {c:Int}:∀ (l:List Fw) {ls:List Ln},LInv ps ls→LInv ps (pushAll ps c ls l)
 | [],_,h=>h
 | x::l,_,h=>pushAll_inv l (h.push x.fr x.tt c x.am)
theorem pushAll_else {ps:List Int} {c d:Int} (hd:c≠d):∀ (l:List Fw) {ls:List Ln},LInv ps ls→roomF ps (pushAll ps c ls l) d=roomF ps ls d
 | [],_,_=>rfl
 | x::l,ls,h=>by
  show roomF ps (pushAll ps c (pushL ps ls x.fr x.tt c x.am) l) d=_
  rw [pushAll_else hd l (h.push _ _ _ _),room_else h _ _ _ hd]
def limL (ls:List Ln):List Ln:=ls.map fun x=>x.owe 0
theorem push_lims {ls:List Ln} (h:Inv ls) {a b c n:Int} (hab:a≠b) (h1:1≤n) (hr:n≤(lnAt ls a b c).db + (lnAt ls b a c).li - (lnAt ls b a c).db):limL (pushTo ls a b c n)=limL ls:=by
 obtain ⟨i,_,f,_⟩:=push_done h hab h1 hr
 have hs:∀ {m:List Ln},m.Pairwise (fun x y=>x.rank<y.rank)→(limL m).Pairwise (fun x y=>x.rank<y.rank):=fun {m} hm=>by
  unfold limL
  rw [List.pairwise_map]
  exact hm
 refine sorted_ext _ _ (hs i.sorted) (hs h.sorted) fun z=>?_
 unfold limL
 rw [List.mem_map,List.mem_map]
 constructor
 ·rintro ⟨y,hy,rfl⟩
  have hl:=(line_iff i y.cr y.de y.cu y).2 ⟨hy,rfl,rfl,rfl⟩
  rw [f] at hl
  split at hl
  ·obtain ⟨x,hx,e⟩:=Option.map_eq_some_iff.1 hl
   exact ⟨x,(lineL_mem hx).1,by rw [← e]; rfl⟩
  ·split at hl
   ·obtain ⟨x,hx,e⟩:=Option.map_eq_some_iff.1 hl
    exact ⟨x,(lineL_mem hx).1,by rw [← e]; rfl⟩
   ·exact ⟨y,(lineL_mem hl).1,rfl⟩
 ·rintro ⟨x,hx,rfl⟩
  have hl:=(line_iff h x.cr x.de x.cu x).2 ⟨hx,rfl,rfl,rfl⟩
  have hf:=f x.cr x.de x.cu
  split at hf
  ·rename_i k
   obtain ⟨k1,k2,k3⟩:=k
   rw [← k1,← k2,← k3] at hl
   rw [hl] at hf
   exact ⟨_,(lineL_mem hf).1,rfl⟩
  ·split at hf
   ·rename_i k
    obtain ⟨k1,k2,k3⟩:=k
    rw [← k1,← k2,← k3] at hl
    rw [hl] at hf
    exact ⟨_,(lineL_mem hf).1,rfl⟩
   ·rw [hl] at hf
    exact ⟨x,(lineL_mem hf).1,rfl⟩
theorem room_goes {ps:List Int} {ls:List Ln} {a b c n:Int} (h1:1≤n) (hr:n≤roomL ps ls a b c):pushL ps ls a b c n=pushTo ls a b c n∧a≠b∧n≤(lnAt ls a b c).db + (lnAt ls b a c).li - (lnAt ls b a c).db:=by
 have hz:¬ (a=b∨a ∉ ps∨b ∉ ps):=by
  intro hz
  unfold roomL at hr
  rw [if_pos hz] at hr
  omega
 have hr2:=hr
 unfold roomL at hr2
 rw [if_neg hz] at hr2
 have he:pushE ps ls a b c n=0:=by unfold pushE; rw [if_neg (by omega),if_neg (by omega)]
 exact ⟨by unfold pushL; rw [if_pos he],fun e=>hz (.inl e),hr2⟩
theorem pushAll_lims {ps:List Int} {c:Int}:∀ (l:List Fw) {ls:List Ln},LInv ps ls→limL (pushAll ps c ls l)=limL ls
 | [],_,_=>rfl
 | x::l,ls,h=>by
  show limL (pushAll ps c (pushL ps ls x.fr x.tt c x.am) l)=_
  rw [pushAll_lims l (h.push _ _ _ _)]
  by_cases he:pushE ps ls x.fr x.tt c x.am=0
  ·have h1:1≤x.am∧x.am≤roomL ps ls x.fr x.tt c:=by unfold pushE at he; (repeat' split at he) <;> omega
   obtain ⟨e,k1,k2⟩:=room_goes h1.1 h1.2
   rw [e]
   exact push_lims h.inv k1 h1.1 k2
  ·unfold pushL
   rw [if_neg he]
theorem posOf_else {x:Ln} {p c:Int} (h:x.cu≠c):posOf p c x=0:=by unfold posOf; rw [if_neg h]
theorem push_pos_else {ls:List Ln} (h:Inv ls) {a b c n:Int} (hab:a≠b) (h1:1≤n) (hr:n≤(lnAt ls a b c).db + (lnAt ls b a c).li - (lnAt ls b a c).db) (p:Int) {d:Int} (hd:c≠d):posL (pushTo ls a b c n) p d=posL ls p d:=by
 obtain ⟨_,_,_,hs⟩:=push_done h hab h1 hr
 unfold posL
 rw [hs (posOf p d) (posOf_noLn p d)]
 have key:∀ a b m,posOf p d ((lnAt ls a b c).owe m)=posOf p d (lnAt ls a b c):=by
  intro a b m
  cases hl:lineL ls a b c with
  | none=>rw [lnAt_none hl]; unfold posOf noLn Ln.owe; simp
  | some x =>
   have hc:=(lineL_mem hl).2.2.2
   rw [lnAt_some hl,posOf_else (x:=x) (by omega),posOf_else (x:=x.owe m) (by show x.cu≠d; omega)]
 rw [key,key]
 omega
theorem pushAll_pos {ps:List Int} {c:Int} (p:Int):∀ (l:List Fw) {ls:List Ln},LInv ps ls→goodL (roomF ps ls c) l→∀ d,posL (pushAll ps c ls l) p d=posL ls p d + (if d=c then netL l p else 0)
 | [],ls,_,_,d=>by show posL ls p d=posL ls p d + (if d=c then 0 else 0); split <;> omega
 | x::l,ls,h,⟨h1,h2,h3⟩,d=>by
  have e:roomF ps (pushL ps ls x.fr x.tt c x.am) c=pushF (roomF ps ls c) x.fr x.tt x.am:=by
   rw [room_push h]
   unfold gPushF
   rw [if_pos ⟨h1,h2⟩]
  show posL (pushAll ps c (pushL ps ls x.fr x.tt c x.am) l) p d=_
  rw [pushAll_pos p l (h.push _ _ _ _) (by rw [e]; exact h3) d]
  obtain ⟨k,k1,k2⟩:=room_goes (ps:=ps) (ls:=ls) h1 h2
  rw [k]
  by_cases hd:d=c
  ·subst hd
   rw [if_pos rfl,if_pos rfl,push_pos (ps:=ps) h.inv h1 h2 p]
   show _=_ + ((if x.tt=p then x.am else 0) - (if x.fr=p then x.am else 0) + netL l p)
   have e1:(if p=x.fr then x.am else 0)=(if x.fr=p then x.am else 0):=by simp only [eq_comm]
   have e2:(if p=x.tt then x.am else 0)=(if x.tt=p then x.am else 0):=by simp only [eq_comm]
   rw [e1,e2]
   omega
  ·rw [if_neg hd,if_neg hd,push_pos_else h.inv k1 h1 k2 p (fun e=>hd e.symm)]
theorem IsRoute.good {f0:Int→Int→Int} {B s t want:Int} {σ:RS} (h:IsRoute f0 B s t want σ):goodL f0 σ.out∧foldF f0 σ.out=σ.f:=by
 obtain ⟨k,h,_⟩:=h
 exact ⟨h.good,h.fold⟩
theorem IsRoute.net {f0:Int→Int→Int} {B s t want:Int} {σ:RS} (h:IsRoute f0 B s t want σ) (p:Int):netL σ.out p=(if t=p then want - σ.left else 0) - (if s=p then want - σ.left else 0):=by
 obtain ⟨k,h,_⟩:=h
 exact h.net p
theorem IsRoute.els {f0:Int→Int→Int} {B s t want:Int} {σ:RS} (h:IsRoute f0 B s t want σ):∀ e ∈ σ.out,inP e.fr∧inP e.tt∧e.fr≠e.tt∧1≤e.am∧e.am≤B:=by
 obtain ⟨k,h,_⟩:=h
 exact h.els
end Go.Proofs.YtojbmnbphdcjfaaGreat
