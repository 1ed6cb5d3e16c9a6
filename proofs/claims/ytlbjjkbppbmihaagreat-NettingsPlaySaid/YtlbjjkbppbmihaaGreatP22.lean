/-
  Pieces of one proof, without what is not wanted: LawSame, Book, BookL, BookF.
-/
import Derived.Test.YtlbjjkbppbmihaaGreatP01
import Derived.Test.YtlbjjkbppbmihaaGreatP02
import Derived.Test.YtlbjjkbppbmihaaGreatP15
import Derived.Test.YtlbjjkbppbmihaaGreatP17
import Derived.Test.YtlbjjkbppbmihaaGreatP20
import Derived.Laws.AppendOwnNone
set_option linter.unusedSimpArgs false
set_option linter.unusedVariables false
namespace Go.Proofs.YtlbjjkbppbmihaaGreat
open Go.RowKit
set_option maxHeartbeats 8000000 in
set_option maxRecDepth 100000 in
theorem lawSame_any {w:World} {G M g base:Nat} {ps:List Int} {ls:List Ln} {vp vl:Value} (hL:LedM w G M ps ls) (hI:LInv ps ls) (hR:RefL w base g ps ls vp vl) (hp:ps.length≤100000) :
  Calls Tryz.prog 15 #[.pointer (some ⟨G,0,none⟩),.pointer (some ⟨g,0,none⟩)] w fun e w'=>e=.returned (.bool true)∧Below w.heap.size w w':=by
 have HL2:=Lib.hid hL
 have HI2:=Lib.hid hI
 have HR:=Lib.hid hR
 have HN:Hid (ps.length≤100000000∧ls.length≤100000000):=Lib.hid ⟨by omega,by have:=hI.len; omega⟩
 have hvp:=owns_open hR.p
 have hvl:=owns_open hR.l
 obtain ⟨ap,cp,hvp,_⟩:=hvp
 obtain ⟨al,cl,hvl,_⟩:=hvl
 clear hL hI hR hp hvp hvl
 go_enter Tryz.func15,Tryz.ntmps15
 go_wp2_with fail
 have hlasts:∀ q ∈ ([(1,(fun v w=>Reads w v 1 ps.length (ps.map (.int .u8)))),(9,(fun v w=>Reads w v 5 ls.length (lnCells ls)))]:List (Nat × (Value→World→Prop))),Lasts q.2:=by
  intro q hq
  simp only [List.mem_cons,List.not_mem_nil,or_false] at hq
  rcases hq with rfl | rfl
  ·exact fun v w w' h k=>h.below k
  ·exact fun v w w' h k=>h.below k
 have HL:=Lib.hid hlasts
 clear hlasts
 refine region_fresh (by kernel_rfl) (fun s:Nat→Value=>[(.pointer (some ⟨G,0,none⟩)),s 1,(.pointer (some ⟨g,0,none⟩)),(.pointer (some ⟨g,0,none⟩)),(.pointer (some ⟨g,0,none⟩)),vp,(.bool true),(.bool true),(.pointer (some ⟨G,0,none⟩)),s 9,(.pointer (some ⟨g,0,none⟩)),(.pointer (some ⟨g,0,none⟩)),(.pointer (some ⟨g,1,none⟩)),vl,(.bool true),(.bool true),(.bool true)])
  (Got w [(1,(fun v w=>Reads w v 1 ps.length (ps.map (.int .u8)))),(9,(fun v w=>Reads w v 5 ls.length (lnCells ls)))]) (by kernel_rfl) (fun _=>undef) (Got.start _ _ _) ?_
 intro AF hAF
 simp only [List.toList_toArray,puts,Act.put,List.getD_cons_zero,List.getD_cons_succ,List.setIfInBounds_toArray,List.set_cons_succ,List.set_cons_zero] at hAF
 have hAF2:_=AF:=funext hAF
 subst hAF2
 clear hAF
 refine ⟨?_,?_⟩
 ·simp only [List.toList_toArray,EachF]
  refine ⟨?_,?_,?_,?_,?_,?_,?_,?_,?_,?_,?_,?_,?_,?_,?_,?_,?_,trivial⟩
  ·intro s D w' hD hW hC hI
   have hS:=hI.below
   refine .inl ⟨s,fun _ _ _=>rfl,?_⟩
   with_reducible refine OpTo.plain ?_ ?_
   exact rfl
   have HS:=Lib.hid (hI.step HL.out (Below.refl _ _) (k:=0) (by intro q hq; simp only [List.mem_cons,List.not_mem_nil,or_false] at hq; rcases hq with rfl | rfl <;> first | exact (show (1:Nat)≠0 by decide) | exact (show (9:Nat)≠0 by decide)))
   clear hI hS hC hW hD
   go_wp2_with fail
   all_goals first | exact HS.out | exact ⟨rfl,HS.out⟩ | rfl
  ·intro s D w' hD hW hC hI
   have hS:=hI.below
   have HI:=Lib.hid hI
   have HCl:=Lib.hid hC
   have HD:=Lib.hid hD
   have HC:=Lib.hid (pparties_any (HL2.out.below hS) HI2.out)
   refine .inr ?_
   with_reducible refine OpGets.plain ?_ ?_
   exact rfl
   clear hI hS hC hW hD
   go_wp2_with fail
   refine HC.out.mono ?_
   rintro e w'' ⟨v,rfl,hv,hb2⟩
   refine ⟨v,rfl,updV s 1 v,vals_put _ (fun s:Nat→Value=>[(.pointer (some ⟨G,0,none⟩)),s 1,(.pointer (some ⟨g,0,none⟩)),(.pointer (some ⟨g,0,none⟩)),(.pointer (some ⟨g,0,none⟩)),vp,(.bool true),(.bool true),(.pointer (some ⟨G,0,none⟩)),s 9,(.pointer (some ⟨g,0,none⟩)),(.pointer (some ⟨g,0,none⟩)),(.pointer (some ⟨g,1,none⟩)),vl,(.bool true),(.bool true),(.bool true)]) s 1 v HCl.out HD.out ?_,rfl,HI.out.put HL.out hb2 ?_⟩
   ·intro j hj
    match j,hj with
    | 0,_=>exact .inr rfl
    | 1,_=>exact .inl (.inl rfl)
    | 2,_=>exact .inr rfl
    | 3,_=>exact .inr rfl
    | 4,_=>exact .inr rfl
    | 5,_=>exact .inr rfl
    | 6,_=>exact .inr rfl
    | 7,_=>exact .inr rfl
    | 8,_=>exact .inr rfl
    | 9,_=>exact .inr rfl
    | 10,_=>exact .inr rfl
    | 11,_=>exact .inr rfl
    | 12,_=>exact .inr rfl
    | 13,_=>exact .inr rfl
    | 14,_=>exact .inr rfl
    | 15,_=>exact .inr rfl
    | 16,_=>exact .inr rfl
    | j + 17,_=>exact .inr rfl
   ·intro q hq he
    simp only [List.mem_cons,List.not_mem_nil,or_false] at hq
    rcases hq with rfl | rfl <;> first | exact hv.reads HN.out.1 | exact absurd (show (9:Nat)=1 from he) (by decide)
  ·intro s D w' hD hW hC hI
   have hS:=hI.below
   refine .inl ⟨s,fun _ _ _=>rfl,?_⟩
   with_reducible refine OpTo.plain ?_ ?_
   exact rfl
   have HS:=Lib.hid (hI.step HL.out (Below.refl _ _) (k:=2) (by intro q hq; simp only [List.mem_cons,List.not_mem_nil,or_false] at hq; rcases hq with rfl | rfl <;> first | exact (show (1:Nat)≠2 by decide) | exact (show (9:Nat)≠2 by decide)))
   clear hI hS hC hW hD
   go_wp2_with fail
   all_goals first | exact HS.out | exact ⟨rfl,HS.out⟩ | rfl
  ·intro s D w' hD hW hC hI
   have hS:=hI.below
   refine .inl ⟨s,fun _ _ _=>rfl,?_⟩
   with_reducible refine OpTo.plain ?_ ?_
   exact rfl
   have hl0:=Nat.lt_of_lt_of_le HR.out.blk.lt hS.size
   have HS:=Lib.hid (hI.step HL.out (Below.refl _ _) (k:=3) (by intro q hq; simp only [List.mem_cons,List.not_mem_nil,or_false] at hq; rcases hq with rfl | rfl <;> first | exact (show (1:Nat)≠3 by decide) | exact (show (9:Nat)≠3 by decide)))
   clear hI hS hC hW hD
   go_wp2_with fail
   all_goals first | exact HS.out | exact ⟨rfl,HS.out⟩ | rfl
  ·intro s D w' hD hW hC hI
   have hS:=hI.below
   refine .inl ⟨s,fun _ _ _=>rfl,?_⟩
   with_reducible refine OpTo.plain ?_ ?_
   exact rfl
   have hl0:=Nat.lt_of_lt_of_le HR.out.blk.lt hS.size
   have HS:=Lib.hid (hI.step HL.out (Below.refl _ _) (k:=4) (by intro q hq; simp only [List.mem_cons,List.not_mem_nil,or_false] at hq; rcases hq with rfl | rfl <;> first | exact (show (1:Nat)≠4 by decide) | exact (show (9:Nat)≠4 by decide)))
   clear hI hS hC hW hD
   go_wp2_with fail
   all_goals first | exact HS.out | exact ⟨rfl,HS.out⟩ | rfl
  ·intro s D w' hD hW hC hI
   have hS:=hI.below
   refine .inl ⟨s,fun _ _ _=>rfl,?_⟩
   with_reducible refine OpTo.plain ?_ ?_
   exact rfl
   have hl0:=Nat.lt_of_lt_of_le HR.out.blk.lt hS.size
   have d0:=(HR.out.blk.below hS HR.out.blk.lt).cell 0
   simp at d0
   have HS:=Lib.hid (hI.step HL.out (Below.refl _ _) (k:=5) (by intro q hq; simp only [List.mem_cons,List.not_mem_nil,or_false] at hq; rcases hq with rfl | rfl <;> first | exact (show (1:Nat)≠5 by decide) | exact (show (9:Nat)≠5 by decide)))
   clear hI hS hC hW hD
   go_wp2_with fail
   all_goals first | exact HS.out | exact ⟨rfl,HS.out⟩ | rfl
  ·intro s D w' hD hW hC hI
   have hS:=hI.below
   refine .inl ⟨s,fun _ _ _=>rfl,?_⟩
   with_reducible refine OpTo.plain ?_ ?_
   exact rfl
   have hP1:D 1=true:=need_waited hC hW (by kernel_rfl)
   have hq1:=hI.at (1,(fun v w=>Reads w v 1 ps.length (ps.map (.int .u8)))) (by simp) hP1
   dsimp only at hq1
   have HI:=Lib.hid hI
   have HC:=Lib.hid ((by have q:=SameParties_any hq1 (Reads.of_owns (owns_below HR.out.p hS) HN.out.1); rw [decide_eq_true rfl] at q; exact q:Calls Tryz.prog 47 #[s 1,vp] w' fun e w''=>e=.returned (.bool true)∧Below w'.heap.size w' w''))
   clear hI hS hC hW hD hP1 hq1
   go_wp2_with fail
   refine HC.out.mono ?_
   rintro e w'' ⟨rfl,hb2⟩
   exact ⟨rfl,HI.out.step HL.out hb2 (by intro q hq; simp only [List.mem_cons,List.not_mem_nil,or_false] at hq; rcases hq with rfl | rfl <;> first | exact (show (1:Nat)≠6 by decide) | exact (show (9:Nat)≠6 by decide))⟩
  ·intro s D w' hD hW hC hI
   have hS:=hI.below
   refine .inl ⟨s,fun _ _ _=>rfl,?_⟩
   with_reducible refine OpTo.plain ?_ ?_
   exact rfl
   have HS:=Lib.hid (hI.step HL.out (Below.refl _ _) (k:=7) (by intro q hq; simp only [List.mem_cons,List.not_mem_nil,or_false] at hq; rcases hq with rfl | rfl <;> first | exact (show (1:Nat)≠7 by decide) | exact (show (9:Nat)≠7 by decide)))
   clear hI hS hC hW hD
   go_wp2_with fail
   all_goals first | exact HS.out | exact ⟨rfl,HS.out⟩ | rfl
  ·intro s D w' hD hW hC hI
   have hS:=hI.below
   refine .inl ⟨s,fun _ _ _=>rfl,?_⟩
   with_reducible refine OpTo.wanted ?_ ?_
   kernel_rfl
   have HS:=Lib.hid (hI.step HL.out (Below.refl _ _) (k:=8) (by intro q hq; simp only [List.mem_cons,List.not_mem_nil,or_false] at hq; rcases hq with rfl | rfl <;> first | exact (show (1:Nat)≠8 by decide) | exact (show (9:Nat)≠8 by decide)))
   clear hI hS hC hW hD
   go_wp2_with fail
   all_goals first | exact HS.out | exact ⟨rfl,HS.out⟩ | rfl
  ·intro s D w' hD hW hC hI
   have hS:=hI.below
   have HI:=Lib.hid hI
   have HCl:=Lib.hid hC
   have HD:=Lib.hid hD
   have HC:=Lib.hid (plines_any (HL2.out.below hS) HI2.out)
   refine .inr ?_
   with_reducible refine OpGets.wanted ?_ ?_
   kernel_rfl
   clear hI hS hC hW hD
   go_wp2_with fail
   refine HC.out.mono ?_
   rintro e w'' ⟨v,rfl,hv,hb2⟩
   refine ⟨v,rfl,updV s 9 v,vals_put _ (fun s:Nat→Value=>[(.pointer (some ⟨G,0,none⟩)),s 1,(.pointer (some ⟨g,0,none⟩)),(.pointer (some ⟨g,0,none⟩)),(.pointer (some ⟨g,0,none⟩)),vp,(.bool true),(.bool true),(.pointer (some ⟨G,0,none⟩)),s 9,(.pointer (some ⟨g,0,none⟩)),(.pointer (some ⟨g,0,none⟩)),(.pointer (some ⟨g,1,none⟩)),vl,(.bool true),(.bool true),(.bool true)]) s 9 v HCl.out HD.out ?_,rfl,HI.out.put HL.out hb2 ?_⟩
   ·intro j hj
    match j,hj with
    | 0,_=>exact .inr rfl
    | 1,_=>exact .inr rfl
    | 2,_=>exact .inr rfl
    | 3,_=>exact .inr rfl
    | 4,_=>exact .inr rfl
    | 5,_=>exact .inr rfl
    | 6,_=>exact .inr rfl
    | 7,_=>exact .inr rfl
    | 8,_=>exact .inr rfl
    | 9,_=>exact .inl (.inl rfl)
    | 10,_=>exact .inr rfl
    | 11,_=>exact .inr rfl
    | 12,_=>exact .inr rfl
    | 13,_=>exact .inr rfl
    | 14,_=>exact .inr rfl
    | 15,_=>exact .inr rfl
    | 16,_=>exact .inr rfl
    | j + 17,_=>exact .inr rfl
   ·intro q hq he
    simp only [List.mem_cons,List.not_mem_nil,or_false] at hq
    rcases hq with rfl | rfl <;> first | exact hv.reads HN.out.2 | exact absurd (show (1:Nat)=9 from he) (by decide)
  ·intro s D w' hD hW hC hI
   have hS:=hI.below
   refine .inl ⟨s,fun _ _ _=>rfl,?_⟩
   with_reducible refine OpTo.wanted ?_ ?_
   kernel_rfl
   have HS:=Lib.hid (hI.step HL.out (Below.refl _ _) (k:=10) (by intro q hq; simp only [List.mem_cons,List.not_mem_nil,or_false] at hq; rcases hq with rfl | rfl <;> first | exact (show (1:Nat)≠10 by decide) | exact (show (9:Nat)≠10 by decide)))
   clear hI hS hC hW hD
   go_wp2_with fail
   all_goals first | exact HS.out | exact ⟨rfl,HS.out⟩ | rfl
  ·intro s D w' hD hW hC hI
   have hS:=hI.below
   refine .inl ⟨s,fun _ _ _=>rfl,?_⟩
   with_reducible refine OpTo.wanted ?_ ?_
   kernel_rfl
   have hl0:=Nat.lt_of_lt_of_le HR.out.blk.lt hS.size
   have HS:=Lib.hid (hI.step HL.out (Below.refl _ _) (k:=11) (by intro q hq; simp only [List.mem_cons,List.not_mem_nil,or_false] at hq; rcases hq with rfl | rfl <;> first | exact (show (1:Nat)≠11 by decide) | exact (show (9:Nat)≠11 by decide)))
   clear hI hS hC hW hD
   go_wp2_with fail
   all_goals first | exact HS.out | exact ⟨rfl,HS.out⟩ | rfl
  ·intro s D w' hD hW hC hI
   have hS:=hI.below
   refine .inl ⟨s,fun _ _ _=>rfl,?_⟩
   with_reducible refine OpTo.wanted ?_ ?_
   kernel_rfl
   have hl0:=Nat.lt_of_lt_of_le HR.out.blk.lt hS.size
   have HS:=Lib.hid (hI.step HL.out (Below.refl _ _) (k:=12) (by intro q hq; simp only [List.mem_cons,List.not_mem_nil,or_false] at hq; rcases hq with rfl | rfl <;> first | exact (show (1:Nat)≠12 by decide) | exact (show (9:Nat)≠12 by decide)))
   clear hI hS hC hW hD
   go_wp2_with fail
   all_goals first | exact HS.out | exact ⟨rfl,HS.out⟩ | rfl
  ·intro s D w' hD hW hC hI
   have hS:=hI.below
   refine .inl ⟨s,fun _ _ _=>rfl,?_⟩
   with_reducible refine OpTo.wanted ?_ ?_
   kernel_rfl
   have hl0:=Nat.lt_of_lt_of_le HR.out.blk.lt hS.size
   have d0:=(HR.out.blk.below hS HR.out.blk.lt).cell 1
   simp at d0
   have HS:=Lib.hid (hI.step HL.out (Below.refl _ _) (k:=13) (by intro q hq; simp only [List.mem_cons,List.not_mem_nil,or_false] at hq; rcases hq with rfl | rfl <;> first | exact (show (1:Nat)≠13 by decide) | exact (show (9:Nat)≠13 by decide)))
   clear hI hS hC hW hD
   go_wp2_with fail
   all_goals first | exact HS.out | exact ⟨rfl,HS.out⟩ | rfl
  ·intro s D w' hD hW hC hI
   have hS:=hI.below
   refine .inl ⟨s,fun _ _ _=>rfl,?_⟩
   with_reducible refine OpTo.wanted ?_ ?_
   kernel_rfl
   have hP9:D 9=true:=need_waited hC hW (by kernel_rfl)
   have hq9:=hI.at (9,(fun v w=>Reads w v 5 ls.length (lnCells ls))) (by simp) hP9
   dsimp only at hq9
   have HI:=Lib.hid hI
   have HC:=Lib.hid ((by have q:=SameLines_any hq9 (Reads.of_owns (owns_below HR.out.l hS) HN.out.2); rw [decide_eq_true rfl] at q; exact q:Calls Tryz.prog 21 #[s 9,vl] w' fun e w''=>e=.returned (.bool true)∧Below w'.heap.size w' w''))
   clear hI hS hC hW hD hP9 hq9
   go_wp2_with fail
   refine HC.out.mono ?_
   rintro e w'' ⟨rfl,hb2⟩
   exact ⟨rfl,HI.out.step HL.out hb2 (by intro q hq; simp only [List.mem_cons,List.not_mem_nil,or_false] at hq; rcases hq with rfl | rfl <;> first | exact (show (1:Nat)≠14 by decide) | exact (show (9:Nat)≠14 by decide))⟩
  ·intro s D w' hD hW hC hI
   have hS:=hI.below
   refine .inl ⟨s,fun _ _ _=>rfl,?_⟩
   with_reducible refine OpTo.plain ?_ ?_
   exact rfl
   have HS:=Lib.hid (hI.step HL.out (Below.refl _ _) (k:=15) (by intro q hq; simp only [List.mem_cons,List.not_mem_nil,or_false] at hq; rcases hq with rfl | rfl <;> first | exact (show (1:Nat)≠15 by decide) | exact (show (9:Nat)≠15 by decide)))
   clear hI hS hC hW hD
   go_wp2_with fail
   all_goals first | exact HS.out | exact ⟨rfl,HS.out⟩ | rfl
  ·intro s D w' hD hW hC hI
   have hS:=hI.below
   refine .inl ⟨s,fun _ _ _=>rfl,?_⟩
   with_reducible refine OpTo.plain ?_ ?_
   exact rfl
   have HS:=Lib.hid (hI.step HL.out (Below.refl _ _) (k:=16) (by intro q hq; simp only [List.mem_cons,List.not_mem_nil,or_false] at hq; rcases hq with rfl | rfl <;> first | exact (show (1:Nat)≠16 by decide) | exact (show (9:Nat)≠16 by decide)))
   clear hI hS hC hW hD
   go_wp2_with fail
   all_goals first | exact HS.out | exact ⟨rfl,HS.out⟩ | rfl
 intro s D w2 hall hI
 have B2:=Lib.hid hI.below
 clear hI hall
 dsimp only
 go_wp2_with fail
 go_ret
 exact ⟨rfl,B2.out⟩
end Go.Proofs.YtlbjjkbppbmihaaGreat
namespace Go.Proofs.YtlbjjkbppbmihaaGreat
open Go.RowKit
def fill (s:Nat) (mk:Nat→Value) (cs:Array Value) (lo hi:Nat):Array Value:=Array.ofFn (n:=cs.size) fun j=>if lo * s≤j.val∧j.val<hi * s then mk (j.val % s) else cs[j]
theorem fill_size (s:Nat) (mk:Nat→Value) (cs:Array Value) (lo hi:Nat):(fill s mk cs lo hi).size=cs.size:=by simp [fill]
theorem fill_get (s:Nat) (mk:Nat→Value) (cs:Array Value) (lo hi j:Nat) (h:j<cs.size):(fill s mk cs lo hi)[j]? = some (if lo * s≤j∧j<hi * s then mk (j % s) else cs[j]):=by
 rw [Array.getElem?_eq_getElem (by rw [fill_size]; exact h)]
 simp [fill]
theorem fill_none (s:Nat) (mk:Nat→Value) (cs:Array Value) (lo:Nat):fill s mk cs lo lo=cs:=by
 apply Array.ext
 ·rw [fill_size]
 ·intro j h1 h2
  simp [fill]
  intro a b; omega
end Go.Proofs.YtlbjjkbppbmihaaGreat
namespace Go.Proofs.YtlbjjkbppbmihaaGreat
open Go.RowKit
theorem blk_ex {w:World} {b:Nat} {cs:Array Value} {t:TypeId} (h:Blk w b cs t) {j:Nat} (hj:j<cs.size):∃ v,w.cell? ⟨b,j,none⟩=some v:=⟨cs[j],by rw [h.cell,Array.getElem?_eq_getElem hj]⟩
end Go.Proofs.YtlbjjkbppbmihaaGreat
namespace Go.Proofs.YtlbjjkbppbmihaaGreat
open Go.RowKit
def fwMk (x:Fw) (j:Nat):Value:=x.vals.getD j undef
theorem fill_next3 (mk:Nat→Value) (cs:Array Value) (lo hi:Nat) (hl:lo≤hi) (h:(hi + 1) * 3≤cs.size) :
  (((fill 3 mk cs lo hi).setIfInBounds (hi * 3) (mk 0)).setIfInBounds (hi * 3 + 1) (mk 1)).setIfInBounds (hi * 3 + 2) (mk 2)=fill 3 mk cs lo (hi + 1):=by
 apply Array.ext
 ·simp [fill_size]
 ·intro j h1 h2
  simp only [Array.size_setIfInBounds] at h1
  repeat rw [Array.getElem_setIfInBounds (by simpa using h1)]
  simp only [fill,Array.getElem_ofFn]
  by_cases e2:hi * 3 + 2=j
  ·rw [if_pos e2,if_pos (by omega),show j % 3=2 by omega]
  rw [if_neg e2]
  by_cases e1:hi * 3 + 1=j
  ·rw [if_pos e1,if_pos (by omega),show j % 3=1 by omega]
  rw [if_neg e1]
  by_cases e0:hi * 3=j
  ·rw [if_pos e0,if_pos (by omega),show j % 3=0 by omega]
  rw [if_neg e0]
  by_cases q:lo * 3≤j∧j<hi * 3
  ·rw [if_pos q,if_pos (by omega)]
  ·rw [if_neg q,if_neg (by omega)]
def PageAtF (w:World) (b:Nat) (cs:Array Value) (row:Array Value) (t e:TypeId) (s lo last:Nat) (mk:Nat→Value) (i:Value) (wr:World):Prop :=
 ∃ k:Nat,lo≤k∧k≤last∧i=.int .i64 k∧Blk wr b (fill s mk cs lo k) e∧Blk wr w.heap.size row t∧Keep (·=b) w wr
set_option maxHeartbeats 4000000 in
theorem writeF_any {w:World} {b n c:Nat} {cs:Array Value} (m q:Fw) (h:Blk w b cs 62) (hn:n≤c) (hs:c * 3≤cs.size) (hc:c≤maxLen) :
  Calls Tryz.prog 149 #[.agg #[.slice (some ⟨b,0,none⟩) n c,.int .u8 m.fr,.int .u8 m.tt,.int .i64 m.am,.int .u8 q.fr,.int .u8 q.tt,.int .i64 q.am]] w fun e w'=>e=.returned (.tuple #[])∧Blk w' b (fill 3 (fwMk m) cs 0 n) 62∧Keep (·=b) w w':=by
 have KR:=Lib.hid (Blk.new w #[.slice (some ⟨b,0,none⟩) n c,.int .u8 m.fr,.int .u8 m.tt,.int .i64 m.am,.int .u8 q.fr,.int .u8 q.tt,.int .i64 q.am] 81)
 have HB:=Lib.hid h
 have hlt:=h.lt
 have K0:=Lib.hid ((Keep.refl (·=b) w).alloc (.cells #[.slice (some ⟨b,0,none⟩) n c,.int .u8 m.fr,.int .u8 m.tt,.int .i64 m.am,.int .u8 q.fr,.int .u8 q.tt,.int .i64 q.am] 81))
 have H1:=Lib.hid (h.alloc (.cells #[.slice (some ⟨b,0,none⟩) n c,.int .u8 m.fr,.int .u8 m.tt,.int .i64 m.am,.int .u8 q.fr,.int .u8 q.tt,.int .i64 q.am] 81))
 have HS:=Lib.hid hs
 unfold maxLen at hc
 clear h hs
 go_enter Tryz.func149,Tryz.ntmps149
 go_wp2
 go_loopw [2] (PageAtF w b cs #[.slice (some ⟨b,0,none⟩) n c,.int .u8 m.fr,.int .u8 m.tt,.int .i64 m.am,.int .u8 q.fr,.int .u8 q.tt,.int .i64 q.am] 81 62 3 0 n (fwMk m)) (fun i _=>n - (intOf i).toNat)
 case atStart=>exact ⟨0,Nat.le_refl _,Nat.zero_le _,rfl,by rw [fill_none]; exact H1.out,KR.out,K0.out⟩
 case round =>
  obtain ⟨k,hk0,hk,rfl,hblk,hrow,hkeep⟩:=hrel
  have r0:=hrow.cell 0
  have r1:=hrow.cell 1
  have r2:=hrow.cell 2
  have r3:=hrow.cell 3
  simp at r0 r1 r2 r3
  by_cases hkl:k<n
  ·have hsz:=fill_size 3 (fwMk m) cs 0 k
   have hS:=HS.out
   obtain ⟨u0,hu0⟩:=blk_ex hblk (j:=k * 3) (by omega)
   obtain ⟨u1,hu1⟩:=blk_ex hblk (j:=k * 3 + 1) (by omega)
   obtain ⟨u2,hu2⟩:=blk_ex hblk (j:=k * 3 + 2) (by omega)
   have hf:=hblk.frozen
   have hz:=hblk.lt
   have hne:b≠w.heap.size:=by omega
   have HB2:=Lib.hid (by
    have:=((hblk.set (k * 3) (fwMk m 0)).set (k * 3 + 1) (fwMk m 1)).set (k * 3 + 2) (fwMk m 2)
    rwa [fill_next3 (fwMk m) cs _ k hk0 (by omega)] at this)
   have HR2:=Lib.hid (((hrow.setOther (a:=⟨b,k * 3,none⟩) (by simpa using Ne.symm hne) (fwMk m 0)).setOther (a:=⟨b,k * 3 + 1,none⟩) (by simpa using Ne.symm hne) (fwMk m 1)).setOther (a:=⟨b,k * 3 + 2,none⟩) (by simpa using Ne.symm hne) (fwMk m 2))
   have HK2:=Lib.hid (Keep.setCell (S:=(·=b)) (Keep.setCell (S:=(·=b)) (Keep.setCell (S:=(·=b)) hkeep (p:=⟨b,k * 3,none⟩) (.inl rfl) (fwMk m 0)) (p:=⟨b,k * 3 + 1,none⟩) (.inl rfl) (fwMk m 1)) (p:=⟨b,k * 3 + 2,none⟩) (.inl rfl) (fwMk m 2))
   clear hblk hrow hkeep hsz hS
   go_wp2
   go_roundw
   case rel=>exact ⟨k + 1,by omega,by omega,by go_num,HB2.out,HR2.out,HK2.out⟩
   case measure=>simp [intOf]; omega
  ·obtain rfl:k=n:=by omega
   go_wp2
   go_end0
   exact ⟨rfl,hblk,hkeep⟩
set_option maxHeartbeats 4000000 in
theorem behindF_any {w:World} {b n c:Nat} {cs:Array Value} (m q:Fw) (h:Blk w b cs 62) (hn:n≤c) (hs:c * 3≤cs.size) (hc:c≤maxLen) :
  Calls Tryz.prog 150 #[.agg #[.slice (some ⟨b,0,none⟩) n c,.int .u8 m.fr,.int .u8 m.tt,.int .i64 m.am,.int .u8 q.fr,.int .u8 q.tt,.int .i64 q.am]] w fun e w'=>e=.returned (.tuple #[])∧Blk w' b (fill 3 (fwMk q) cs n c) 62∧Keep (·=b) w w':=by
 have KR:=Lib.hid (Blk.new w #[.slice (some ⟨b,0,none⟩) n c,.int .u8 m.fr,.int .u8 m.tt,.int .i64 m.am,.int .u8 q.fr,.int .u8 q.tt,.int .i64 q.am] 81)
 have HB:=Lib.hid h
 have hlt:=h.lt
 have K0:=Lib.hid ((Keep.refl (·=b) w).alloc (.cells #[.slice (some ⟨b,0,none⟩) n c,.int .u8 m.fr,.int .u8 m.tt,.int .i64 m.am,.int .u8 q.fr,.int .u8 q.tt,.int .i64 q.am] 81))
 have H1:=Lib.hid (h.alloc (.cells #[.slice (some ⟨b,0,none⟩) n c,.int .u8 m.fr,.int .u8 m.tt,.int .i64 m.am,.int .u8 q.fr,.int .u8 q.tt,.int .i64 q.am] 81))
 have HS:=Lib.hid hs
 unfold maxLen at hc
 clear h hs
 go_enter Tryz.func150,Tryz.ntmps150
 go_wp2
 go_loopw [3] (PageAtF w b cs #[.slice (some ⟨b,0,none⟩) n c,.int .u8 m.fr,.int .u8 m.tt,.int .i64 m.am,.int .u8 q.fr,.int .u8 q.tt,.int .i64 q.am] 81 62 3 n c (fwMk q)) (fun i _=>c - (intOf i).toNat)
 case atStart=>exact ⟨n,Nat.le_refl _,hn,rfl,by rw [fill_none]; exact H1.out,KR.out,K0.out⟩
 case round =>
  obtain ⟨k,hk0,hk,rfl,hblk,hrow,hkeep⟩:=hrel
  have r0:=hrow.cell 0
  have r4:=hrow.cell 4
  have r5:=hrow.cell 5
  have r6:=hrow.cell 6
  simp at r0 r4 r5 r6
  by_cases hkl:k<c
  ·have hsz:=fill_size 3 (fwMk q) cs n k
   have hS:=HS.out
   obtain ⟨u0,hu0⟩:=blk_ex hblk (j:=k * 3) (by omega)
   obtain ⟨u1,hu1⟩:=blk_ex hblk (j:=k * 3 + 1) (by omega)
   obtain ⟨u2,hu2⟩:=blk_ex hblk (j:=k * 3 + 2) (by omega)
   have hf:=hblk.frozen
   have hz:=hblk.lt
   have hne:b≠w.heap.size:=by omega
   have HB2:=Lib.hid (by
    have:=((hblk.set (k * 3) (fwMk q 0)).set (k * 3 + 1) (fwMk q 1)).set (k * 3 + 2) (fwMk q 2)
    rwa [fill_next3 (fwMk q) cs _ k hk0 (by omega)] at this)
   have HR2:=Lib.hid (((hrow.setOther (a:=⟨b,k * 3,none⟩) (by simpa using Ne.symm hne) (fwMk q 0)).setOther (a:=⟨b,k * 3 + 1,none⟩) (by simpa using Ne.symm hne) (fwMk q 1)).setOther (a:=⟨b,k * 3 + 2,none⟩) (by simpa using Ne.symm hne) (fwMk q 2))
   have HK2:=Lib.hid (Keep.setCell (S:=(·=b)) (Keep.setCell (S:=(·=b)) (Keep.setCell (S:=(·=b)) hkeep (p:=⟨b,k * 3,none⟩) (.inl rfl) (fwMk q 0)) (p:=⟨b,k * 3 + 1,none⟩) (.inl rfl) (fwMk q 1)) (p:=⟨b,k * 3 + 2,none⟩) (.inl rfl) (fwMk q 2))
   clear hblk hrow hkeep hsz hS
   go_wp2
   go_roundw
   case rel=>exact ⟨k + 1,by omega,by omega,by go_num,HB2.out,HR2.out,HK2.out⟩
   case measure=>simp [intOf]; omega
  ·obtain rfl:k=c:=by omega
   go_wp2
   go_end0
   exact ⟨rfl,hblk,hkeep⟩
set_option maxHeartbeats 8000000 in
set_option maxRecDepth 100000 in
theorem standsF_any {w:World} {b n c:Nat} {cs:Array Value} (m q:Fw) (h:Blk w b cs 62) (hn:n≤c) (hs:c * 3≤cs.size) (hc:c≤maxLen)
  (h1:∀ j,j<n→∀ i,i<3→cs[j * 3 + i]? = some (fwMk m i)) (h2:∀ j,n≤j→j<c→∀ i,i<3→cs[j * 3 + i]? = some (fwMk q i)) :
  Calls Tryz.prog 148 #[.agg #[.slice (some ⟨b,0,none⟩) n c,.int .u8 m.fr,.int .u8 m.tt,.int .i64 m.am,.int .u8 q.fr,.int .u8 q.tt,.int .i64 q.am]] w fun e w'=>e=.returned (.bool true)∧Below w.heap.size w w':=by
 have KR:=Lib.hid (Blk.new w #[.slice (some ⟨b,0,none⟩) n c,.int .u8 m.fr,.int .u8 m.tt,.int .i64 m.am,.int .u8 q.fr,.int .u8 q.tt,.int .i64 q.am] 81)
 have B0:=Lib.hid ((Below.refl w.heap.size w).alloc (Nat.le_refl _) (.cells #[.slice (some ⟨b,0,none⟩) n c,.int .u8 m.fr,.int .u8 m.tt,.int .i64 m.am,.int .u8 q.fr,.int .u8 q.tt,.int .i64 q.am] 81))
 have HB:=Lib.hid h
 have hlt:=h.lt
 have H1:=Lib.hid h1; have H2:=Lib.hid h2
 unfold maxLen at hc
 clear h h1 h2 hs
 go_enter Tryz.func148,Tryz.ntmps148
 go_wp2
 go_loopw [4] (fun i wr=>∃ k:Nat,k≤c∧i=.int .i64 k∧Below w.heap.size w wr∧Blk wr w.heap.size #[.slice (some ⟨b,0,none⟩) n c,.int .u8 m.fr,.int .u8 m.tt,.int .i64 m.am,.int .u8 q.fr,.int .u8 q.tt,.int .i64 q.am] 81) (fun i _=>c - (intOf i).toNat)
 case atStart=>exact ⟨0,Nat.zero_le _,rfl,B0.out,KR.out⟩
 case round =>
  obtain ⟨k,hk,rfl,hb,hrow⟩:=hrel
  have r0:=hrow.cell 0
  simp at r0
  have BB:=Lib.hid hb; have RR:=Lib.hid hrow
  have hz:=hrow.lt
  have hzb:b<wr.heap.size:=Nat.lt_of_lt_of_le hlt hb.size
  by_cases hkl:k<c
  ·have BK:=Lib.hid (HB.out.below BB.out hlt)
   clear hb hrow
   by_cases hkn:k<n
   ·have CK:=Lib.hid (H1.out k hkn)
    have g1:decide ((k:Int)<(n:Int))=true:=by simp; omega
    have g2:decide (n≤k)=false:=by simp; omega
    go_wp2_with fail
    refine region_still (by kernel_rfl) [.int .i64 k,.pointer (some ⟨w.heap.size,0,none⟩),.slice (some ⟨b,0,none⟩) n c,.int .i64 n,.bool true,.bool true,.slice (some ⟨b,0,none⟩) c c,.int .i64 k,.pointer (some ⟨b,k * 3,none⟩),.agg #[.int .u8 m.fr,.int .u8 m.tt,.int .i64 m.am],.pointer (some ⟨w.heap.size,1,none⟩),.agg #[.int .u8 m.fr,.int .u8 m.tt,.int .i64 m.am],.bool false,.bool false,.bool false,.int .i64 k,.pointer (some ⟨w.heap.size,0,none⟩),.slice (some ⟨b,0,none⟩) n c,.int .i64 n,.bool false,.bool false,undef,undef,undef,undef,undef,undef,undef,.bool false,.bool false]
     (fun w'=>Below wr.heap.size wr w') (by kernel_rfl) (Below.refl _ _).drew ?_
    intro af haf
    simp only [puts,Act.put,List.getD_cons_zero,List.getD_cons_succ,List.setIfInBounds_toArray,List.set_cons_succ,List.set_cons_zero] at haf
    subst haf
    refine ⟨?_,?_⟩
    ·simp only [EachTo]
     refine ⟨?_,?_,?_,?_,?_,?_,?_,?_,?_,?_,?_,?_,?_,?_,?_,?_,?_,?_,?_,?_,?_,?_,?_,?_,?_,?_,?_,?_,?_,?_,trivial⟩
     ·intro w' hS
      refine OpTo.plain ?_ ?_
      exact rfl
      have HS:=Lib.hid hS
      clear hS
      go_wp2_with fail
      all_goals first | exact HS.out | exact ⟨rfl,HS.out⟩ | rfl
     ·intro w' hS
      refine OpTo.plain ?_ ?_
      exact rfl
      have HS:=Lib.hid hS
      clear hS
      go_wp2_with fail
      all_goals first | exact HS.out | exact ⟨rfl,HS.out⟩ | rfl
     ·intro w' hS
      refine OpTo.plain ?_ ?_
      exact rfl
      have r0:=(RR.out.below hS RR.out.lt).cell 0
      simp at r0
      have HS:=Lib.hid hS
      clear hS
      go_wp2_with fail
      all_goals first | exact HS.out | exact ⟨rfl,HS.out⟩ | rfl
     ·intro w' hS
      refine OpTo.plain ?_ ?_
      exact rfl
      have HS:=Lib.hid hS
      clear hS
      go_wp2_with fail
      all_goals first | exact HS.out | exact ⟨rfl,HS.out⟩ | rfl
     ·intro w' hS
      refine OpTo.plain ?_ ?_
      exact rfl
      have HS:=Lib.hid hS
      clear hS
      go_wp2_with fail
      all_goals first | exact HS.out | exact ⟨rfl,HS.out⟩ | rfl
     ·intro w' hS
      refine OpTo.plain ?_ ?_
      exact rfl
      have HS:=Lib.hid hS
      clear hS
      go_wp2_with fail
      all_goals first | exact HS.out | exact ⟨rfl,HS.out⟩ | rfl
     ·intro w' hS
      refine OpTo.wanted ?_ ?_
      kernel_rfl
      have HS:=Lib.hid hS
      clear hS
      go_wp2_with fail
      all_goals first | exact HS.out | exact ⟨rfl,HS.out⟩ | rfl
     ·intro w' hS
      refine OpTo.wanted ?_ ?_
      kernel_rfl
      have HS:=Lib.hid hS
      clear hS
      go_wp2_with fail
      all_goals first | exact HS.out | exact ⟨rfl,HS.out⟩ | rfl
     ·intro w' hS
      refine OpTo.wanted ?_ ?_
      kernel_rfl
      have HS:=Lib.hid hS
      clear hS
      go_wp2_with fail
      all_goals first | exact HS.out | exact ⟨rfl,HS.out⟩ | rfl
     ·intro w' hS
      refine OpTo.wanted ?_ ?_
      kernel_rfl
      have p0:=((BK.out.below hS BK.out.lt).cell (k * 3)).trans (CK.out 0 (by omega))
      have p1:=((BK.out.below hS BK.out.lt).cell (k * 3 + 1)).trans (CK.out 1 (by omega))
      have p2:=((BK.out.below hS BK.out.lt).cell (k * 3 + 2)).trans (CK.out 2 (by omega))
      simp [fwMk,Fw.vals] at p0 p1 p2
      have HS:=Lib.hid hS
      clear hS
      go_wp2_with fail
      all_goals first | exact HS.out | exact ⟨rfl,HS.out⟩ | rfl
     ·intro w' hS
      refine OpTo.wanted ?_ ?_
      kernel_rfl
      have HS:=Lib.hid hS
      clear hS
      go_wp2_with fail
      all_goals first | exact HS.out | exact ⟨rfl,HS.out⟩ | rfl
     ·intro w' hS
      refine OpTo.wanted ?_ ?_
      kernel_rfl
      have r0:=(RR.out.below hS RR.out.lt).cell 1
      have r1:=(RR.out.below hS RR.out.lt).cell 2
      have r2:=(RR.out.below hS RR.out.lt).cell 3
      simp at r0 r1 r2
      have HS:=Lib.hid hS
      clear hS
      go_wp2_with fail
      all_goals first | exact HS.out | exact ⟨rfl,HS.out⟩ | rfl
     ·intro w' hS
      refine OpTo.wanted ?_ ?_
      kernel_rfl
      have HS:=Lib.hid hS
      clear hS
      go_wp2_with fail
      all_goals first | exact HS.out | exact ⟨rfl,HS.out⟩ | rfl
     ·intro w' hS
      refine OpTo.plain ?_ ?_
      exact rfl
      have HS:=Lib.hid hS
      clear hS
      go_wp2_with fail
      all_goals first | exact HS.out | exact ⟨rfl,HS.out⟩ | rfl
     ·intro w' hS
      refine OpTo.plain ?_ ?_
      exact rfl
      have HS:=Lib.hid hS
      clear hS
      go_wp2_with fail
      all_goals first | exact HS.out | exact ⟨rfl,HS.out⟩ | rfl
     ·intro w' hS
      refine OpTo.wanted ?_ ?_
      kernel_rfl
      have HS:=Lib.hid hS
      clear hS
      go_wp2_with fail
      all_goals first | exact HS.out | exact ⟨rfl,HS.out⟩ | rfl
     ·intro w' hS
      refine OpTo.wanted ?_ ?_
      kernel_rfl
      have HS:=Lib.hid hS
      clear hS
      go_wp2_with fail
      all_goals first | exact HS.out | exact ⟨rfl,HS.out⟩ | rfl
     ·intro w' hS
      refine OpTo.wanted ?_ ?_
      kernel_rfl
      have r0:=(RR.out.below hS RR.out.lt).cell 0
      simp at r0
      have HS:=Lib.hid hS
      clear hS
      go_wp2_with fail
      all_goals first | exact HS.out | exact ⟨rfl,HS.out⟩ | rfl
     ·intro w' hS
      refine OpTo.wanted ?_ ?_
      kernel_rfl
      have HS:=Lib.hid hS
      clear hS
      go_wp2_with fail
      all_goals first | exact HS.out | exact ⟨rfl,HS.out⟩ | rfl
     ·intro w' hS
      refine OpTo.wanted ?_ ?_
      kernel_rfl
      have HS:=Lib.hid hS
      clear hS
      go_wp2_with fail
      all_goals first | exact HS.out | exact ⟨rfl,HS.out⟩ | rfl
     ·intro w' hS
      refine OpTo.wanted ?_ ?_
      kernel_rfl
      have HS:=Lib.hid hS
      clear hS
      go_wp2_with fail
      all_goals first | exact HS.out | exact ⟨rfl,HS.out⟩ | rfl
     ·intro w' hS
      refine OpTo.passed (by kernel_rfl) rfl hS
     ·intro w' hS
      refine OpTo.passed (by kernel_rfl) rfl hS
     ·intro w' hS
      refine OpTo.passed (by kernel_rfl) rfl hS
     ·intro w' hS
      refine OpTo.passed (by kernel_rfl) rfl hS
     ·intro w' hS
      refine OpTo.passed (by kernel_rfl) rfl hS
     ·intro w' hS
      refine OpTo.passed (by kernel_rfl) rfl hS
     ·intro w' hS
      refine OpTo.passed (by kernel_rfl) rfl hS
     ·intro w' hS
      refine OpTo.wanted ?_ ?_
      kernel_rfl
      have HS:=Lib.hid hS
      clear hS
      go_wp2_with fail
      all_goals first | exact HS.out | exact ⟨rfl,HS.out⟩ | rfl
     ·intro w' hS
      refine OpTo.plain ?_ ?_
      exact rfl
      have HS:=Lib.hid hS
      clear hS
      go_wp2_with fail
      all_goals first | exact HS.out | exact ⟨rfl,HS.out⟩ | rfl
    intro w' hS
    have hS':=Lib.hid hS
    clear hS
    go_wp2
    go_roundw
    case rel=>exact ⟨k + 1,by omega,by go_num,BB.out.trans (hS'.out.mono BB.out.size),RR.out.below hS'.out RR.out.lt⟩
    case measure=>simp [intOf]; omega
   ·have CK:=Lib.hid (H2.out k (by omega) hkl)
    have g1:decide ((k:Int)<(n:Int))=false:=by simp; omega
    have g2:decide (n≤k)=true:=by simp; omega
    go_wp2_with fail
    refine region_still (by kernel_rfl) [.int .i64 k,.pointer (some ⟨w.heap.size,0,none⟩),.slice (some ⟨b,0,none⟩) n c,.int .i64 n,.bool false,.bool false,undef,undef,undef,undef,undef,undef,undef,.bool false,.bool false,.int .i64 k,.pointer (some ⟨w.heap.size,0,none⟩),.slice (some ⟨b,0,none⟩) n c,.int .i64 n,.bool true,.bool true,.slice (some ⟨b,0,none⟩) c c,.int .i64 k,.pointer (some ⟨b,k * 3,none⟩),.agg #[.int .u8 q.fr,.int .u8 q.tt,.int .i64 q.am],.pointer (some ⟨w.heap.size,4,none⟩),.agg #[.int .u8 q.fr,.int .u8 q.tt,.int .i64 q.am],.bool false,.bool false,.bool false]
     (fun w'=>Below wr.heap.size wr w') (by kernel_rfl) (Below.refl _ _).drew ?_
    intro af haf
    simp only [puts,Act.put,List.getD_cons_zero,List.getD_cons_succ,List.setIfInBounds_toArray,List.set_cons_succ,List.set_cons_zero] at haf
    subst haf
    refine ⟨?_,?_⟩
    ·simp only [EachTo]
     refine ⟨?_,?_,?_,?_,?_,?_,?_,?_,?_,?_,?_,?_,?_,?_,?_,?_,?_,?_,?_,?_,?_,?_,?_,?_,?_,?_,?_,?_,?_,?_,trivial⟩
     ·intro w' hS
      refine OpTo.plain ?_ ?_
      exact rfl
      have HS:=Lib.hid hS
      clear hS
      go_wp2_with fail
      all_goals first | exact HS.out | exact ⟨rfl,HS.out⟩ | rfl
     ·intro w' hS
      refine OpTo.plain ?_ ?_
      exact rfl
      have HS:=Lib.hid hS
      clear hS
      go_wp2_with fail
      all_goals first | exact HS.out | exact ⟨rfl,HS.out⟩ | rfl
     ·intro w' hS
      refine OpTo.plain ?_ ?_
      exact rfl
      have r0:=(RR.out.below hS RR.out.lt).cell 0
      simp at r0
      have HS:=Lib.hid hS
      clear hS
      go_wp2_with fail
      all_goals first | exact HS.out | exact ⟨rfl,HS.out⟩ | rfl
     ·intro w' hS
      refine OpTo.plain ?_ ?_
      exact rfl
      have HS:=Lib.hid hS
      clear hS
      go_wp2_with fail
      all_goals first | exact HS.out | exact ⟨rfl,HS.out⟩ | rfl
     ·intro w' hS
      refine OpTo.plain ?_ ?_
      exact rfl
      have HS:=Lib.hid hS
      clear hS
      go_wp2_with fail
      all_goals first | exact HS.out | exact ⟨rfl,HS.out⟩ | rfl
     ·intro w' hS
      refine OpTo.plain ?_ ?_
      exact rfl
      have HS:=Lib.hid hS
      clear hS
      go_wp2_with fail
      all_goals first | exact HS.out | exact ⟨rfl,HS.out⟩ | rfl
     ·intro w' hS
      refine OpTo.passed (by kernel_rfl) rfl hS
     ·intro w' hS
      refine OpTo.passed (by kernel_rfl) rfl hS
     ·intro w' hS
      refine OpTo.passed (by kernel_rfl) rfl hS
     ·intro w' hS
      refine OpTo.passed (by kernel_rfl) rfl hS
     ·intro w' hS
      refine OpTo.passed (by kernel_rfl) rfl hS
     ·intro w' hS
      refine OpTo.passed (by kernel_rfl) rfl hS
     ·intro w' hS
      refine OpTo.passed (by kernel_rfl) rfl hS
     ·intro w' hS
      refine OpTo.plain ?_ ?_
      exact rfl
      have HS:=Lib.hid hS
      clear hS
      go_wp2_with fail
      all_goals first | exact HS.out | exact ⟨rfl,HS.out⟩ | rfl
     ·intro w' hS
      refine OpTo.plain ?_ ?_
      exact rfl
      have HS:=Lib.hid hS
      clear hS
      go_wp2_with fail
      all_goals first | exact HS.out | exact ⟨rfl,HS.out⟩ | rfl
     ·intro w' hS
      refine OpTo.wanted ?_ ?_
      kernel_rfl
      have HS:=Lib.hid hS
      clear hS
      go_wp2_with fail
      all_goals first | exact HS.out | exact ⟨rfl,HS.out⟩ | rfl
     ·intro w' hS
      refine OpTo.wanted ?_ ?_
      kernel_rfl
      have HS:=Lib.hid hS
      clear hS
      go_wp2_with fail
      all_goals first | exact HS.out | exact ⟨rfl,HS.out⟩ | rfl
     ·intro w' hS
      refine OpTo.wanted ?_ ?_
      kernel_rfl
      have r0:=(RR.out.below hS RR.out.lt).cell 0
      simp at r0
      have HS:=Lib.hid hS
      clear hS
      go_wp2_with fail
      all_goals first | exact HS.out | exact ⟨rfl,HS.out⟩ | rfl
     ·intro w' hS
      refine OpTo.wanted ?_ ?_
      kernel_rfl
      have HS:=Lib.hid hS
      clear hS
      go_wp2_with fail
      all_goals first | exact HS.out | exact ⟨rfl,HS.out⟩ | rfl
     ·intro w' hS
      refine OpTo.wanted ?_ ?_
      kernel_rfl
      have HS:=Lib.hid hS
      clear hS
      go_wp2_with fail
      all_goals first | exact HS.out | exact ⟨rfl,HS.out⟩ | rfl
     ·intro w' hS
      refine OpTo.wanted ?_ ?_
      kernel_rfl
      have HS:=Lib.hid hS
      clear hS
      go_wp2_with fail
      all_goals first | exact HS.out | exact ⟨rfl,HS.out⟩ | rfl
     ·intro w' hS
      refine OpTo.wanted ?_ ?_
      kernel_rfl
      have HS:=Lib.hid hS
      clear hS
      go_wp2_with fail
      all_goals first | exact HS.out | exact ⟨rfl,HS.out⟩ | rfl
     ·intro w' hS
      refine OpTo.wanted ?_ ?_
      kernel_rfl
      have HS:=Lib.hid hS
      clear hS
      go_wp2_with fail
      all_goals first | exact HS.out | exact ⟨rfl,HS.out⟩ | rfl
     ·intro w' hS
      refine OpTo.wanted ?_ ?_
      kernel_rfl
      have HS:=Lib.hid hS
      clear hS
      go_wp2_with fail
      all_goals first | exact HS.out | exact ⟨rfl,HS.out⟩ | rfl
     ·intro w' hS
      refine OpTo.wanted ?_ ?_
      kernel_rfl
      have p0:=((BK.out.below hS BK.out.lt).cell (k * 3)).trans (CK.out 0 (by omega))
      have p1:=((BK.out.below hS BK.out.lt).cell (k * 3 + 1)).trans (CK.out 1 (by omega))
      have p2:=((BK.out.below hS BK.out.lt).cell (k * 3 + 2)).trans (CK.out 2 (by omega))
      simp [fwMk,Fw.vals] at p0 p1 p2
      have HS:=Lib.hid hS
      clear hS
      go_wp2_with fail
      all_goals first | exact HS.out | exact ⟨rfl,HS.out⟩ | rfl
     ·intro w' hS
      refine OpTo.wanted ?_ ?_
      kernel_rfl
      have HS:=Lib.hid hS
      clear hS
      go_wp2_with fail
      all_goals first | exact HS.out | exact ⟨rfl,HS.out⟩ | rfl
     ·intro w' hS
      refine OpTo.wanted ?_ ?_
      kernel_rfl
      have r0:=(RR.out.below hS RR.out.lt).cell 4
      have r1:=(RR.out.below hS RR.out.lt).cell 5
      have r2:=(RR.out.below hS RR.out.lt).cell 6
      simp at r0 r1 r2
      have HS:=Lib.hid hS
      clear hS
      go_wp2_with fail
      all_goals first | exact HS.out | exact ⟨rfl,HS.out⟩ | rfl
     ·intro w' hS
      refine OpTo.wanted ?_ ?_
      kernel_rfl
      have HS:=Lib.hid hS
      clear hS
      go_wp2_with fail
      all_goals first | exact HS.out | exact ⟨rfl,HS.out⟩ | rfl
     ·intro w' hS
      refine OpTo.wanted ?_ ?_
      kernel_rfl
      have HS:=Lib.hid hS
      clear hS
      go_wp2_with fail
      all_goals first | exact HS.out | exact ⟨rfl,HS.out⟩ | rfl
     ·intro w' hS
      refine OpTo.plain ?_ ?_
      exact rfl
      have HS:=Lib.hid hS
      clear hS
      go_wp2_with fail
      all_goals first | exact HS.out | exact ⟨rfl,HS.out⟩ | rfl
    intro w' hS
    have hS':=Lib.hid hS
    clear hS
    go_wp2
    go_roundw
    case rel=>exact ⟨k + 1,by omega,by go_num,BB.out.trans (hS'.out.mono BB.out.size),RR.out.below hS'.out RR.out.lt⟩
    case measure=>simp [intOf]; omega
  ·go_wp2
   go_ret
   exact ⟨rfl,BB.out⟩
end Go.Proofs.YtlbjjkbppbmihaaGreat
