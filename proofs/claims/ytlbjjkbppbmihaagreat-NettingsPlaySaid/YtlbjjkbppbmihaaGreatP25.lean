/-
  Pieces of one proof, without what is not wanted: RowV.
-/
import Derived.Test.YtlbjjkbppbmihaaGreatP01
import Derived.Test.YtlbjjkbppbmihaaGreatP09
import Derived.Test.YtlbjjkbppbmihaaGreatP13
import Derived.StillTailTactics
set_option linter.unusedSimpArgs false
set_option linter.unusedVariables false
namespace Go.Proofs.YtlbjjkbppbmihaaGreat
open Go.RowKit
def RowV (w:World) (g:Nat) (e:TypeId) (n:Nat) (F:Nat→Value):Prop:=∃ cur,Blk w g cur e∧cur.size=n∧∀ p,p<n→cur[p]? = some (F p)
section
variable {w w':World} {g n:Nat} {e:TypeId} {F:Nat→Value}
theorem RowV.lt (h:RowV w g e n F):g<w.heap.size:=by
 obtain ⟨cur,h1,_⟩:=h
 exact h1.lt
theorem RowV.cell (h:RowV w g e n F) {p:Nat} (hp:p<n):w.cell? ⟨g,p,none⟩=some (F p):=by
 obtain ⟨cur,h1,_,h3⟩:=h
 rw [h1.cell]; exact h3 p hp
theorem RowV.frozen (h:RowV w g e n F) (p:Nat):w.frozen? ⟨g,p,none⟩=false:=by
 obtain ⟨cur,h1,_⟩:=h
 exact h1.frozen p
theorem RowV.set (h:RowV w g e n F) {p:Nat} (hp:p<n) (u:Value):RowV (w.setCell ⟨g,p,none⟩ u) g e n (fun q=>if q=p then u else F q):=by
 obtain ⟨cur,h1,h2,h3⟩:=h
 refine ⟨_,h1.set p u,by simpa using h2,fun q hq=>?_⟩
 by_cases e:q=p
 ·subst e
  rw [Array.getElem?_setIfInBounds_self_of_lt (by omega)]
  simp
 ·rw [Array.getElem?_setIfInBounds_ne (fun h=>e h.symm),h3 q hq]
  simp [e]
theorem RowV.congr {G:Nat→Value} (h:RowV w g e n F) (hf:∀ p,p<n→F p=G p):RowV w g e n G:=by
 obtain ⟨cur,h1,h2,h3⟩:=h
 exact ⟨cur,h1,h2,fun p hp=>by rw [← hf p hp]; exact h3 p hp⟩
theorem RowV.keep {S:Nat→Prop} (h:RowV w g e n F) (k:Keep S w w') (hs:¬ S g):RowV w' g e n F:=by
 obtain ⟨cur,h1,h2,h3⟩:=h
 exact ⟨cur,h1.keep k hs,h2,h3⟩
theorem RowV.below (h:RowV w g e n F) (k:Below w.heap.size w w'):RowV w' g e n F:=by
 obtain ⟨cur,h1,h2,h3⟩:=h
 exact ⟨cur,h1.below k h1.lt,h2,h3⟩
theorem RowV.drew (h:RowV w g e n F):RowV w.drew g e n F:=h
theorem RowV.ne {g' n':Nat} {e':TypeId} {F':Nat→Value} (h:RowV w g e n F) (h':RowV w g' e' n' F') (he:e≠e'):g≠g':=by
 rintro rfl
 obtain ⟨cur,h1,_⟩:=h
 obtain ⟨cur',h1',_⟩:=h'
 unfold Blk at h1 h1'
 rw [h1] at h1'
 simp at h1'
 exact he h1'.2
theorem RowV.of_owns {base:Nat} {cap:Nat} {xs:List Value} (h:w.ownsRow base e 1 (.slice (some ⟨g,0,none⟩) n n) n xs) (hF:∀ p,p<n→xs[p]? = some (F p)):RowV w g e n F:=by
 obtain ⟨h1,h2⟩:=h
 rcases h2 with ⟨h2,_⟩ | ⟨g',c',cur,hv,_,hg,_,_,hs,ht⟩
 ·cases h2
 ·cases hv
  refine ⟨cur,hg,by omega,fun p hp=>?_⟩
  rw [← hF p hp,← ht,List.getElem?_take_of_lt (by omega),Array.getElem?_toList]
end
end Go.Proofs.YtlbjjkbppbmihaaGreat
namespace Go.Proofs.YtlbjjkbppbmihaaGreat
open Go.RowKit
def lvF2 (L:Nat→Int) (i:Nat):Value:=.int .i64 (L i)
def RLeastPost (l:List Fw) (q:Int) (w:World) (e:Ending) (w':World):Prop:=Below w.heap.size w w' ∧
 ((¬ (MayD l∧0≤q)∧e=.returned (.tuple #[.slice none 0 0,.int .i64 0,.int .i64 1])) ∨
 (MayD l∧0≤q∧∃ L k,IsLeast l L k∧(((k:Int)≤q∧∃ v,e=.returned (.tuple #[v,.int .i64 k,.int .i64 0])∧Reads w' v 3 (leftL l L).length (fwCells (leftL l L))) ∨
  (q<(k:Int)∧e=.returned (.tuple #[.slice none 0 0,.int .i64 0,.int .i64 13])))))
theorem info_i64:(Tryz.prog.info? 2).map (fun i=>(i.zero,i.size,i.bytes))=some (some (.int .i64 0),1,8):=by kernel_rfl
theorem info_int:(Tryz.prog.info? 3).map (fun i=>(i.zero,i.size,i.bytes))=some (some (.int .i64 0),1,8):=by kernel_rfl
theorem info_bool:(Tryz.prog.info? 4).map (fun i=>(i.zero,i.size,i.bytes))=some (some (.bool false),1,1):=by kernel_rfl
def L1At (w:World) (l:List Fw) (i:Value) (wr:World):Prop:=∃ k:Nat,k≤l.length∧i=.int .i64 k∧RowV wr w.heap.size 2 l.length (fun j=>if j<k then .int .i64 (amD l j) else .int .i64 0)∧Below w.heap.size w wr
def L2At (w:World) (l:List Fw) (q:Int) (m:Value) (wr:World):Prop:=∃ (k:Nat) (L:Nat→Int),RdInv l k L∧(k:Int)≤q∧m=.int .i64 k∧RowV wr w.heap.size 2 l.length (lvF2 L)∧Below w.heap.size w wr
def L3At (W:World) (l:List Fw) (L:Nat→Int) (c i:Value) (wr:World):Prop:=∃ k:Nat,k≤l.length∧i=.int .i64 k∧wr.ownsRow W.heap.size 125 3 c (rdE l L k).length (edCells (rdE l L k))∧Below W.heap.size W wr
def optV:Option Nat→Value
 | none=>.int .i64 (-1)
 | some i=>.int .i64 (i:Nat)
def atF (l:List Fw) (L:Nat→Int) (u:Nat→Int) (k j:Nat):Value:=if j<k then .int .i64 (ixS l L (u j) (u (j + 1)):Nat) else .int .i64 0
def bkF (l:List Fw) (L:Nat→Int) (u:Nat→Int) (k j:Nat):Value:=if j<k then .bool (bkS l L (u j) (u (j + 1))) else .bool false
def L4At (W:World) (l:List Fw) (L:Nat→Int) (u:Nat→Int) (K ga gb:Nat) (n k:Value) (wr:World):Prop :=
 ∃ j:Nat,j≤K∧k=.int .i64 j∧n=.int .i64 (minK l L u j)∧RowV wr ga 3 K (atF l L u j)∧RowV wr gb 4 K (bkF l L u j)∧Keep (fun x=>x=ga∨x=gb) W wr
def L5At (W:World) (p:Nat→Bool) (N K ga:Nat) (F:Nat→Value) (k:Nat) (i:Value) (wr:World):Prop :=
 ∃ j:Nat,j≤N∧i=.int .i64 j∧RowV wr ga 3 K (fun x=>if x=k then optV (lastI p j) else F x)∧Keep (fun x=>x=ga) W wr
def L7At (W:World) (l:List Fw) (L:Nat→Int) (u:Nat→Int) (n:Int) (K gl:Nat) (k:Value) (wr:World):Prop :=
 ∃ j:Nat,j≤K∧k=.int .i64 j∧RowV wr gl 2 l.length (lvF2 (tkK l L u n j))∧Keep (fun x=>x=gl) W wr
def L8At (W:World) (l:List Fw) (L:Nat→Int) (c i:Value) (wr:World):Prop:=∃ k:Nat,k≤l.length∧i=.int .i64 k∧wr.ownsRow W.heap.size 62 3 c (leftN l L k).length (fwCells (leftN l L k))∧Below W.heap.size W wr
theorem lastI_next (p:Nat→Bool) (n:Nat):lastI p (n + 1)=if p n then some n else lastI p n:=rfl
theorem step_append_one {P:Program} {ops:Array Oper} {o:Oper} {a:Act} {w:World} {K:Act→World→Prop} {Q:Exit→Act→World→Prop} {E:Prop}
  (hg:o.guard=none) (s x:Operand) (t:TypeId) (hop:o.op=Op.call { callee:=Callee.builtin Builtin.append,args:=#[s,x],argTypes:=#[t,t] })
  (base:Nat) (e:TypeId) {z:Value} {sz by':Nat} (ht:P.underlying t=some (.slice e)) (hz0:z.cells.size=sz) (h0:0<sz) (hby:by'≤1000) (hi:(P.info? e).map (fun i=>(i.zero,i.size,i.bytes))=some (some z,sz,by')) (v:Value) (n:Nat) (xs:List Value) (hs:a.eval s=v) (hown:w.ownsRow base e sz v n xs)
  (g c:Nat) (vs:List Value) (hvs:vs.length=sz) (h1:∀ u ∈ vs,u.oneCell'=true) (hx:a.eval x=.slice (some ⟨g,0,none⟩) 1 c) (hy:Blk w g vs.toArray e) (hlen:n≤100000) (hbase:base≤w.heap.size)
  (hK:∀ v' w',w'.ownsRow base e sz v' (n + 1) (xs++vs)→w.grownBy w' v.ownBlock→K (a.put o.dst v') w') :
  if Region.wanted o (yielded ops a.tmps)=true then Oper.wp P o a w K Q else E:=by
 have hw:Region.wanted o (yielded ops a.tmps)=true:=by simp [Region.wanted,hg]
 rw [if_pos hw]
 obtain ⟨i0,hi1,hi2,hi3,hi4⟩:=info_parts hi
 obtain ⟨v',w',hr,h2,h3,_⟩:=run_append_own_at (P:=P) w base t o.type e i0 z sz by' ht hi1 hi2 hi3 hi4 hz0 h0 v n xs hown ⟨g,0,none⟩ 1 c vs (by rw [hvs]; omega) (fun j u hj=>by
  rw [Go.WideShapes.add_plain,Nat.zero_add,hy.cell j]
  simpa using hj) h1 (by unfold maxLen; omega) (by refine Nat.le_trans (Nat.mul_le_mul_left _ hby) ?_; omega) hbase
 refine wp_append_args s x t hop hs hx hr ?_
 exact hK v' w' h2 h3
set_option maxHeartbeats 64000000 in
set_option maxRecDepth 100000 in
theorem rleast_any {w:World} {ao:Option Addr} {cap:Nat} {l:List Fw} (hr:DebtsIn w ao l) (hfit:DebtsFit l) (hln:l.length≤240) (q:Int) :
  Calls Tryz.prog 46 #[.slice ao l.length cap,.int .i64 q] w (RLeastPost l q w):=by
 have HC:=Lib.hid hr
 have HF:=Lib.hid hfit
 have CM:=Lib.hid (rmay_any (cap:=cap) hr hfit (by omega))
 clear hr hfit
 by_cases hm:mayN l l.length=true
 case neg =>
  -- FAST
  as_aux_lemma =>
   have hm':mayN l l.length=false:=by simpa using hm
   have HN:Hid (¬ (MayD l∧0≤q)):=Lib.hid fun h=>hm ((mayD_iff l).2 h.1)
   rw [hm'] at CM
   clear hm hm'
   go_enter Tryz.func46,Tryz.ntmps46
   go_wp2_with fail
   refine CM.out.mono ?_
   rintro e w1 ⟨rfl,b1⟩
   have B1:=Lib.hid b1
   clear b1 CM
   go_wp2_with fail
   go_ret3
   exact ⟨B1.out,.inl ⟨HN.out,rfl⟩⟩
 rw [hm] at CM
 have HM:=Lib.hid ((mayD_iff l).1 hm)
 clear hm
 by_cases hq:q<0
 case pos =>
  -- FAST
  as_aux_lemma =>
   have hq':decide (q<0)=true:=by simpa using hq
   have HN:Hid (¬ (MayD l∧0≤q)):=Lib.hid fun h=>by omega
   clear hq
   go_enter Tryz.func46,Tryz.ntmps46
   go_wp2_with fail
   refine CM.out.mono ?_
   rintro e w1 ⟨rfl,b1⟩
   have B1:=Lib.hid b1
   clear b1 CM
   go_wp2_with fail
   go_ret3
   exact ⟨B1.out,.inl ⟨HN.out,rfl⟩⟩
 have hq':decide (q<0)=false:=by simpa using hq
 have HQ:Hid (0≤q):=Lib.hid (by omega)
 clear hq
 obtain ⟨i0,hi,hz0,hz1,hz2⟩:=info_parts info_i64
 go_enter Tryz.func46,Tryz.ntmps46
 go_wp2_with fail
 refine CM.out.mono ?_
 rintro e w1 ⟨rfl,b1⟩
 have B1:=Lib.hid b1
 clear b1 CM
 go_wp2_with (at_make; refine wpList_make_full _ rfl _ _ 121 rfl w1.heap.size 2 i0 (.int .i64 0) 1 Tryz.underlying121 hi hz0 hz1 _ _ _ _ l.length rfl rfl rfl rfl (by rw [hz2]; omega) (by unfold maxLen; omega) (Nat.le_refl _) ?_)
 intro w2 hown hgr
 have B2:=Lib.hid (show Below w1.heap.size w1 w2 from (Below.refl w1.heap.size w1).grown hgr (Nat.le_refl _) (fun k h=>by cases h))
 have R2:=Lib.hid (RowV.of_owns (F:=fun j=>if j<0 then .int .i64 (amD l j) else .int .i64 0) (cap:=0) hown (fun p hp=>by
  rw [if_neg (by omega)]
  show ((madeCells #[.int .i64 0] l.length).toList)[p]? = _
  rw [toList_madeCells_one,List.getElem?_replicate,if_pos (by omega)]))
 clear hown hgr
 go_wp2_with fail
 go_loopw [8] (L1At w1 l) (fun i _=>l.length - (intOf i).toNat)
 case atStart=>exact ⟨0,by omega,rfl,R2.out,B2.out⟩
 case round =>
  focus
   clear R2 B2
   obtain ⟨k,hk,rfl,hR,hB⟩:=hrel
   have RR:=Lib.hid hR
   have BB:=Lib.hid hB
   have hwl:=hR.lt
   clear hR hB
   by_cases hkl:k<l.length
   ·have qk:decide ((k:Int)<(l.length:Int))=true:=by simpa using hkl
    have k0:(0:Int)≤(k:Int):=by omega
    have k1:(k:Int)<(l.length:Int):=by omega
    -- FAST
    as_aux_lemma =>
     obtain ⟨b,off,rfl,hbw,hcell⟩:=(HC.out.below B1.out) (by omega)
     obtain ⟨_,_,e2⟩:=hcell k hkl
     have d2:=(BB.out.cell (p:=⟨b,off + k * 3 + 2,none⟩) hbw).trans e2
     have hbr:=Nat.lt_of_lt_of_le hbw BB.out.size
     have d3:=RR.out.cell hkl
     rw [if_neg (Nat.lt_irrefl k)] at d3
     have f3:=RR.out.frozen k
     have RS:=Lib.hid ((RR.out.set hkl (.int .i64 (dbt l k).am)).congr (G:=fun j=>if j<k + 1 then .int .i64 (amD l j) else .int .i64 0) (fun p hp=>by
      by_cases e:p=k
      ·subst e; rw [if_pos rfl,if_pos (by omega)]; rfl
      ·rw [if_neg e]
       by_cases h:p<k
       ·rw [if_pos h,if_pos (by omega)]
       ·rw [if_neg h,if_neg (by omega)]))
     have BS:=Lib.hid (BB.out.setCell (p:=⟨w1.heap.size,k,none⟩) (Nat.le_refl _) (.int .i64 (dbt l k).am))
     generalize (dbt l k).am=am at *
     have HLT:=Lib.hid hkl
     clear hcell
     go_wp2_with fail
     exact ⟨⟨k + 1,by have:=HLT.out; omega,by go_num,RS.out,BS.out⟩,by simp [intOf]; have:=HLT.out; omega⟩
   ·have hkn:k=l.length:=by omega
    subst hkn
    have qk:decide (((l.length:Nat):Int)<(l.length:Int))=false:=by simp
    have R3:=Lib.hid (RR.out.congr (G:=lvF2 (amD l)) (fun p hp=>by rw [if_pos hp]; rfl))
    have S0:=Lib.hid (am_bd HM.out)
    obtain ⟨S,hS⟩:∃ S,sumN (amD l) l.length=S:=⟨_,rfl⟩
    have HS:=Lib.hid hS
    clear hS RR
    go_wp2_with fail
    go_loopw [9] (L2At w1 l q) (fun i _=>(S + 1).toNat - (intOf i).toNat)
    case atStart=>exact ⟨0,amD l,RdInv.start HM.out,HQ.out,rfl,R3.out,BB.out⟩
    case round =>
     focus
      clear R3 BB
      obtain ⟨k,L,hI,hkq,rfl,hR,hB⟩:=hrel
      have RR:=Lib.hid hR
      have BB:=Lib.hid hB
      have HI:=Lib.hid hI
      have HKQ:=Lib.hid hkq
      have hkS:=hI.k_le
      obtain ⟨s0,s9⟩:=S0.out
      rw [HS.out] at hkS s0 s9
      have hk0:(0:Int)≤(k:Int):=by omega
      have hwl2:=hR.lt
      clear hR hB hI
      obtain ⟨W,hW⟩:∃ x,x=wr:=⟨_,rfl⟩
      subst hW
      go_wp2_with fail
      go_loopw [10,11] (L3At W l L) (fun _ i _=>l.length - (intOf i).toNat)
      case atStart=>exact ⟨0,by omega,rfl,World.ownsRow_nil _ _ _ _,Below.refl _ _⟩
      case round =>
       focus
        obtain ⟨k,hk,rfl,hE,hB⟩:=hrel
        have BB3:=Lib.hid hB
        have OE:=Lib.hid hE
        obtain ⟨aoc,capc,rfl,_⟩:=owns_open hE
        have hel0:=rdE_len l L k
        have hel:(rdE l L k).length≤600:=by omega
        clear hE hB hel0
        by_cases hkl:k<l.length
        ·have qk:decide ((k:Int)<(l.length:Int))=true:=by simpa using hkl
         have k0:(0:Int)≤(k:Int):=by omega
         have k1:(k:Int)<(l.length:Int):=by omega
         obtain ⟨b,off,rfl,hbW,hcell⟩:=((HC.out.below B1.out).below BB.out) (by omega)
         obtain ⟨e0,e1,e2⟩:=hcell k hkl
         have dl:=RR.out.cell hkl
         have d0:=(BB3.out.cell (p:=⟨b,off + k * 3,none⟩) hbW).trans e0
         have d1:=(BB3.out.cell (p:=⟨b,off + k * 3 + 1,none⟩) hbW).trans e1
         have d2:=(BB3.out.cell (p:=⟨b,off + k * 3 + 2,none⟩) hbW).trans e2
         have dL:=(BB3.out.cell (p:=⟨w1.heap.size,k,none⟩) hwl2).trans dl
         unfold lvF2 at dl dL
         have hbr:=Nat.lt_of_lt_of_le hbW BB3.out.size
         have hwr:=Nat.lt_of_lt_of_le hwl2 BB3.out.size
         have NX:=Lib.hid (rdE_next l L k)
         obtain ⟨x,hx⟩:∃ x,dbt l k=x:=⟨_,rfl⟩
         rw [hx] at d0 d1 d2 e0 e1 e2 NX
         obtain ⟨n,hn⟩:∃ n,L k=n:=⟨_,rfl⟩
         rw [hn] at dl dL NX
         obtain ⟨fr,tt,am⟩:=x
         dsimp only at d0 d1 d2 e0 e1 e2 NX
         have HLT:=Lib.hid hkl
         have HEL:=Lib.hid hel
         generalize hEs:rdE l L k=es at OE NX hel HEL ⊢
         clear hEs hel hcell hx hn
         -- FAST
         focus
          by_cases hp:0<n
          ·have q4:decide (0<n)=true:=by simpa using hp
           rw [if_pos hp,← List.append_assoc] at NX
           clear hp
           go_wp2_with fail
           go_region_law (refine step_append_re rfl (.tmp 59) (.tmp 71) 122 rfl W.heap.size 125 Tryz.underlying122 rfl info_re (.slice aoc es.length capc) es (by go_simp) (owns_below OE.out ((Below.refl _ _).drew.alloc (Nat.le_refl _) _)) wr.heap.size 1 ⟨fr,tt,-1⟩ (by go_simp) (Blk.new wr.drew _ _) (by have:=HEL.out; omega) (by have:=BB3.out.size; simp; omega) ?_; intro v' w' ho hgr; have HO:=Lib.hid ho; have HGR:=Lib.hid hgr; clear ho hgr)
           all_goals
            have OV:=(show World.ownsRow _ W.heap.size 125 3 _ (es++[(⟨fr,tt,-1⟩:Ed)]).length (edCells (es++[(⟨fr,tt,-1⟩:Ed)])) by simpa using HO.out)
            have BV:=((BB3.out.trans ((Below.refl wr.heap.size wr).drew.mono BB3.out.size)).alloc (by have:=BB3.out.size; simpa using this) _).grown HGR.out (by have:=BB3.out.size; simp; omega) (fun k hk=>(owns_type OE.out hk).1)
            obtain ⟨aoc,capc,hvv,_⟩:=owns_open OV
            subst hvv
            have hel2:(es++[(⟨fr,tt,-1⟩:Ed)]).length≤700:=by have:=HEL.out; simp; omega
            have HEL:=Lib.hid hel2
            clear hel2
            generalize es++[(⟨fr,tt,-1⟩:Ed)]=es2 at *
            clear HO HGR d0 d1 d2 dL hbr hwr OE BB3
            obtain ⟨V,hV⟩:∃ V,V=w':=⟨_,rfl⟩
            subst hV
            have d0:=(BV.cell (p:=⟨b,off + k * 3,none⟩) hbW).trans e0
            have d1:=(BV.cell (p:=⟨b,off + k * 3 + 1,none⟩) hbW).trans e1
            have d2:=(BV.cell (p:=⟨b,off + k * 3 + 2,none⟩) hbW).trans e2
            have dL:=(BV.cell (p:=⟨w1.heap.size,k,none⟩) hwl2).trans dl
            have hbr:=Nat.lt_of_lt_of_le hbW BV.size
            have hwr:=Nat.lt_of_lt_of_le hwl2 BV.size
            by_cases hq2:n<am
            ·have q5:decide (n<am)=true:=by simpa using hq2
             rw [if_pos hq2] at NX
             clear hq2
             go_wp2_with fail
             go_quiet (fail)
             have OV2:(V.drewN nq).ownsRow W.heap.size 125 3 (.slice aoc es2.length capc) es2.length (edCells es2):=OV
             have BV2:Below W.heap.size W (V.drewN nq):=⟨BV.os,BV.tape,BV.output,BV.size,BV.block⟩
             clear OV BV d0 d1 d2 dL
             have d0:=(BV2.cell (p:=⟨b,off + k * 3,none⟩) hbW).trans e0
             have d1:=(BV2.cell (p:=⟨b,off + k * 3 + 1,none⟩) hbW).trans e1
             have hbr:=Nat.lt_of_lt_of_le hbW BV2.size
             have OV3:=Lib.hid OV2
             have BV3:=Lib.hid BV2
             clear OV2 BV2
             generalize V.drewN nq=V2 at *
             go_wp2_with fail
             go_region_law (refine step_append_re rfl (.tmp 83) (.tmp 95) 122 rfl W.heap.size 125 Tryz.underlying122 rfl info_re (.slice aoc es2.length capc) es2 (by go_simp) (owns_below OV3.out ((Below.refl _ _).drew.alloc (Nat.le_refl _) _)) V2.heap.size 1 ⟨tt,fr,1⟩ (by go_simp) (Blk.new V2.drew _ _) (by have:=HEL.out; omega) (by have:=BV3.out.size; simp; omega) ?_; intro v' w' ho hgr; have HO:=Lib.hid ho; have HGR:=Lib.hid hgr; clear ho hgr)
             all_goals
              have O2:=Lib.hid (show World.ownsRow _ W.heap.size 125 3 _ (es2++[(⟨tt,fr,1⟩:Ed)]).length (edCells (es2++[(⟨tt,fr,1⟩:Ed)])) by simpa using HO.out)
              have B2:=Lib.hid (((BV3.out.trans ((Below.refl V2.heap.size V2).drew.mono BV3.out.size)).alloc (by have:=BV3.out.size; simpa using this) _).grown HGR.out (by have:=BV3.out.size; simp; omega) (fun k hk=>(owns_type OV3.out hk).1))
              clear HO HGR
              go_wp2_with fail
              exact ⟨⟨k + 1,by have:=HLT.out; omega,by go_num,by rw [NX.out]; exact O2.out,B2.out⟩,by simp [intOf]; have:=HLT.out; omega⟩
            ·have q5:decide (n<am)=false:=by simpa using hq2
             rw [if_neg hq2,List.append_nil] at NX
             clear hq2
             go_wp2_with fail
             go_quiet (fail)
             have O2:Hid ((V.drewN nq).ownsRow W.heap.size 125 3 (.slice aoc es2.length capc) es2.length (edCells es2)):=Lib.hid OV
             have B2:Hid (Below W.heap.size W (V.drewN nq)):=Lib.hid ⟨BV.os,BV.tape,BV.output,BV.size,BV.block⟩
             go_wp2_with fail
             exact ⟨⟨k + 1,by have:=HLT.out; omega,by go_num,by rw [NX.out]; exact O2.out,B2.out⟩,by simp [intOf]; have:=HLT.out; omega⟩
          ·have q4:decide (0<n)=false:=by simpa using hp
           rw [if_neg hp,List.nil_append] at NX
           clear hp
           have OV:=OE.out
           have BV:=BB3.out
           clear OE BB3
           obtain ⟨V,hV⟩:∃ V,V=wr:=⟨_,rfl⟩
           subst hV
           by_cases hq2:n<am
           ·have q5:decide (n<am)=true:=by simpa using hq2
            rw [if_pos hq2] at NX
            clear hq2
            go_wp2_with fail
            go_quiet (fail)
            have OV2:(V.drewN nq).ownsRow W.heap.size 125 3 (.slice aoc es.length capc) es.length (edCells es):=OV
            have BV2:Below W.heap.size W (V.drewN nq):=⟨BV.os,BV.tape,BV.output,BV.size,BV.block⟩
            clear OV BV d0 d1 d2 dL
            have d0:=(BV2.cell (p:=⟨b,off + k * 3,none⟩) hbW).trans e0
            have d1:=(BV2.cell (p:=⟨b,off + k * 3 + 1,none⟩) hbW).trans e1
            have hbr:=Nat.lt_of_lt_of_le hbW BV2.size
            have OV3:=Lib.hid OV2
            have BV3:=Lib.hid BV2
            clear OV2 BV2
            generalize V.drewN nq=V2 at *
            go_wp2_with fail
            go_region_law (refine step_append_re rfl (.tmp 83) (.tmp 95) 122 rfl W.heap.size 125 Tryz.underlying122 rfl info_re (.slice aoc es.length capc) es (by go_simp) (owns_below OV3.out ((Below.refl _ _).drew.alloc (Nat.le_refl _) _)) V2.heap.size 1 ⟨tt,fr,1⟩ (by go_simp) (Blk.new V2.drew _ _) (by have:=HEL.out; omega) (by have:=BV3.out.size; simp; omega) ?_; intro v' w' ho hgr; have HO:=Lib.hid ho; have HGR:=Lib.hid hgr; clear ho hgr)
            all_goals
             have O2:=Lib.hid (show World.ownsRow _ W.heap.size 125 3 _ (es++[(⟨tt,fr,1⟩:Ed)]).length (edCells (es++[(⟨tt,fr,1⟩:Ed)])) by simpa using HO.out)
             have B2:=Lib.hid (((BV3.out.trans ((Below.refl V2.heap.size V2).drew.mono BV3.out.size)).alloc (by have:=BV3.out.size; simpa using this) _).grown HGR.out (by have:=BV3.out.size; simp; omega) (fun k hk=>(owns_type OV3.out hk).1))
             clear HO HGR
             go_wp2_with fail
             exact ⟨⟨k + 1,by have:=HLT.out; omega,by go_num,by rw [NX.out]; exact O2.out,B2.out⟩,by simp [intOf]; have:=HLT.out; omega⟩
           ·have q5:decide (n<am)=false:=by simpa using hq2
            rw [if_neg hq2,List.append_nil] at NX
            clear hq2
            go_wp2_with fail
            go_quiet (fail)
            have O2:Hid ((V.drewN nq).ownsRow W.heap.size 125 3 (.slice aoc es.length capc) es.length (edCells es)):=Lib.hid OV
            have B2:Hid (Below W.heap.size W (V.drewN nq)):=Lib.hid ⟨BV.os,BV.tape,BV.output,BV.size,BV.block⟩
            go_wp2_with fail
            exact ⟨⟨k + 1,by have:=HLT.out; omega,by go_num,by rw [NX.out]; exact O2.out,B2.out⟩,by simp [intOf]; have:=HLT.out; omega⟩
        ·have hkn:k=l.length:=by omega
         subst hkn
         have qk:decide (((l.length:Nat):Int)<(l.length:Int))=false:=by simp
         have hln2:=rdE_len l L l.length
         have CR:=Lib.hid (rround_any (Reads.of_owns OE.out (by omega)) (rdE_fits L HF.out) (by omega))
         have BW:=Lib.hid (BB.out.trans (BB3.out.mono BB.out.size))
         have RW:=Lib.hid (RR.out.below BB3.out)
         clear hln2 hel
         go_wp2_with fail
         refine CR.out.mono ?_
         rintro e w4 ⟨wv,rfl,hw,hb4⟩
         have B4:=Lib.hid (BW.out.trans (hb4.mono BW.out.size))
         have R4:=Lib.hid (RW.out.below hb4)
         obtain ⟨awo,capw,rfl,hcw,_,_,hwx⟩:=owns_open hw
         change (wayD l L).length≤capw at hcw
         have hwl4:w1.heap.size<w4.heap.size:=R4.out.lt
         have hW16:=roundW_16 (rdE l L l.length) (rdE_co l L l.length)
         change (wayD l L).length≤16 at hW16
         change 0<(wayD l L).length→_ at hwx
         rw [show roundW (rdE l L l.length)=wayD l L from rfl] at hwx ⊢
         clear CR BW RW RR BB OE BB3 hb4 hw qk
         by_cases hd:wayD l L=[]
         ·have HD:=Lib.hid hd
          rw [hd]
          clear hd hwx hcw hW16
          -- FAST
          focus
           simp only [List.length_nil]
           go_wp2_with fail
           go_loopw [22,23] (L8At w4 l L) (fun _ i _=>l.length - (intOf i).toNat)
           case atStart=>exact ⟨0,by omega,rfl,World.ownsRow_nil _ _ _ _,Below.refl _ _⟩
           case round =>
            focus
             obtain ⟨i,hi,rfl,hE,hB⟩:=hrel
             have BB3:=Lib.hid hB
             have OE:=Lib.hid hE
             obtain ⟨aoc,capc,rfl,_⟩:=owns_open hE
             have hel0:=leftN_len l L i
             have hel:(leftN l L i).length≤600:=by omega
             clear hE hB hel0
             by_cases hkl:i<l.length
             ·have qk:decide ((i:Int)<(l.length:Int))=true:=by simpa using hkl
              have i0:(0:Int)≤(i:Int):=by omega
              have i1:(i:Int)<(l.length:Int):=by omega
              obtain ⟨b,off,rfl,hbW,hcell⟩:=((HC.out.below B1.out).below B4.out) (by omega)
              obtain ⟨e0,e1,e2⟩:=hcell i hkl
              have dl:=R4.out.cell hkl
              have d0:=(BB3.out.cell (p:=⟨b,off + i * 3,none⟩) hbW).trans e0
              have d1:=(BB3.out.cell (p:=⟨b,off + i * 3 + 1,none⟩) hbW).trans e1
              have dL:=(BB3.out.cell (p:=⟨w1.heap.size,i,none⟩) hwl4).trans dl
              unfold lvF2 at dl dL
              have hbr:=Nat.lt_of_lt_of_le hbW BB3.out.size
              have hwr:=Nat.lt_of_lt_of_le hwl4 BB3.out.size
              have NX:=Lib.hid (leftN_next l L i)
              obtain ⟨x,hx⟩:∃ x,dbt l i=x:=⟨_,rfl⟩
              rw [hx] at d0 d1 NX
              obtain ⟨n,hn⟩:∃ n,L i=n:=⟨_,rfl⟩
              rw [hn] at dL NX
              obtain ⟨fr,tt,am⟩:=x
              dsimp only at d0 d1 NX
              have HLT:=Lib.hid hkl
              have HEL:=Lib.hid hel
              generalize hEs:leftN l L i=es at OE NX hel HEL ⊢
              clear hEs hel hcell hx hn e0 e1 e2 dl
              by_cases hp:0<n
              ·have q4:decide (0<n)=true:=by simpa using hp
               rw [if_pos hp] at NX
               clear hp
               go_wp2_with fail
               go_region_law (refine step_append_one rfl (.tmp 279) (.tmp 295) 36 rfl w4.heap.size 62 Tryz.underlying36 rfl (by decide) (by decide) info_fw (.slice aoc es.length capc) es.length (fwCells es) (by go_simp) (owns_below OE.out ((Below.refl _ _).drew.alloc (Nat.le_refl _) _)) wr.heap.size 1 [.int .u8 fr,.int .u8 tt,.int .i64 n] rfl (by intro u hu; simp at hu; rcases hu with rfl | rfl | rfl <;> rfl) (by go_simp) (Blk.new wr.drew _ _) (by have:=HEL.out; omega) (by have:=BB3.out.size; simp; omega) ?_; intro v' w' ho hgr; have HO:=Lib.hid ho; have HGR:=Lib.hid hgr; clear ho hgr)
               all_goals
                have O2:=Lib.hid (show World.ownsRow _ w4.heap.size 62 3 _ (es++[(⟨fr,tt,n⟩:Fw)]).length (fwCells (es++[(⟨fr,tt,n⟩:Fw)])) by rw [fwCells_append,fwCells_one,List.length_append]; exact HO.out)
                have B2:=Lib.hid (((BB3.out.trans ((Below.refl wr.heap.size wr).drew.mono BB3.out.size)).alloc (by have:=BB3.out.size; simpa using this) _).grown HGR.out (by have:=BB3.out.size; simp; omega) (fun k hk=>(owns_type OE.out hk).1))
                clear HO HGR
                go_wp2_with fail
                exact ⟨⟨i + 1,by have:=HLT.out; omega,by go_num,by rw [NX.out]; exact O2.out,B2.out⟩,by simp [intOf]; have:=HLT.out; omega⟩
              ·have q4:decide (0<n)=false:=by simpa using hp
               rw [if_neg hp,List.append_nil] at NX
               clear hp
               go_wp2_with fail
               exact ⟨⟨i + 1,by have:=HLT.out; omega,by go_num,by rw [NX.out]; exact OE.out,BB3.out⟩,by simp [intOf]; have:=HLT.out; omega⟩
             ·have hkn:i=l.length:=by omega
              subst hkn
              have qk:decide (((l.length:Nat):Int)<(l.length:Int))=false:=by simp
              have B5:=Lib.hid (B1.out.trans ((B4.out.trans (BB3.out.mono B4.out.size)).mono B1.out.size))
              have V5:=Lib.hid (Reads.of_owns OE.out (by omega))
              go_wp2_with fail
              go_ret3
              exact ⟨B5.out,.inr ⟨HM.out,HQ.out,L,_,⟨HI.out,HD.out⟩,.inl ⟨HKQ.out,_,rfl,V5.out⟩⟩⟩
         ·have hlp:0<(wayD l L).length:=List.length_pos_iff.2 hd
          have qp:(((wayD l L).length:Int)==0)=false:=by simp; omega
          by_cases hkq2:(k:Int)=q
          ·have qe:((k:Int)==q)=true:=by simpa using hkq2
           -- FAST
           as_aux_lemma =>
            obtain ⟨M,j,hj,hkj⟩:=quota_out HM.out HI.out hd
            have HE:Hid (RLeastPost l q w (.returned (.tuple #[.slice none 0 0,.int .i64 0,.int .i64 13])) w4):=Lib.hid ⟨B1.out.trans (B4.out.mono B1.out.size),.inr ⟨HM.out,HQ.out,M,j,hj,.inr ⟨by omega,rfl⟩⟩⟩
            generalize (wayD l L).length=m at *
            clear hd hkq2 hj hkj hwx hW16 hlp
            go_wp2_with fail
            go_ret3
            exact HE.out
          ·have qe:((k:Int)==q)=false:=by simpa using hkq2
           have hkq3:((k + 1:Nat):Int)≤q:=by have:=HKQ.out; omega
           have HK3:=Lib.hid hkq3
           have HST:=Lib.hid (HI.out.step HM.out hd)
           have hk1:=HST.out.k_le
           rw [HS.out] at hk1
           have HK1:=Lib.hid hk1
           obtain ⟨_,c,K,_,hK,hu,hSt,_,hn1⟩:=next_is HM.out HI.out.ok hd
           obtain ⟨gw,rfl,_,hgw,hwc,_⟩:=hwx hlp
           obtain ⟨u,hu0⟩:∃ u,uW (wayD l L)=u:=⟨_,rfl⟩
           have AP:Hid (∀ j k,j<k→k<K→ixS l L (u j) (u (j + 1))≠ixS l L (u k) (u (k + 1))):=Lib.hid (by rw [← hu0]; exact fun j k hj hk=>steps_apart HM.out hu hSt hj hk)
           have WC:Hid (∀ j,j<K→w4.cell? ⟨gw,j,none⟩=some (.int .u8 (u j))):=Lib.hid (fun j hj=>by
            rw [hwc j (by omega),List.getElem?_map,hu.at_ j hj,hu0]; rfl)
           have UK:Hid (∀ j,u (j % K)=u j):=Lib.hid (fun j=>by rw [← hu0]; unfold uW; rw [hK,Nat.mod_mod])
           have AM:Hid (amtD l L=minK l L u K):=Lib.hid (by unfold amtD; rw [hu0,hK])
           have TK:Hid (nextD l L=tkK l L u (amtD l L) K):=Lib.hid (by unfold nextD; rw [hu0,hK])
           rw [hu0] at hSt hu
           have ST:=Lib.hid hSt
           have UE:=Lib.hid hu.ends
           have N1:=Lib.hid hn1
           have k1:1≤K:=hu.k1
           have k16:K≤16:=hu.k16
           rw [hK] at hcw qp ⊢
           have HKN:=Lib.hid hK
           clear hwx hwc hu hSt hn1 hu0 hW16 hlp hK hkq3 hk1 hkq2 hd
           obtain ⟨j0,hj,jz0,jz1,jz2⟩:=info_parts info_int
           obtain ⟨b0,hb,bz0,bz1,bz2⟩:=info_parts info_bool
           go_wp2_with (at_make; refine wpList_make_full _ rfl _ _ 127 rfl w4.heap.size 3 j0 (.int .i64 0) 1 Tryz.underlying127 hj jz0 jz1 _ _ _ _ K rfl rfl rfl rfl (by rw [jz2]; omega) (by unfold maxLen; omega) (Nat.le_refl _) ?_)
           intro w5 hown5 hgr5
           have B5:=Lib.hid (show Below w4.heap.size w4 w5 from (Below.refl w4.heap.size w4).grown hgr5 (Nat.le_refl _) (fun k h=>by cases h))
           have A5:=Lib.hid (RowV.of_owns (F:=atF l L u 0) (cap:=0) hown5 (fun p hp=>by
            unfold atF
            rw [if_neg (by omega)]
            show ((madeCells #[.int .i64 0] _).toList)[p]? = _
            rw [toList_madeCells_one,List.getElem?_replicate,if_pos (by omega)]))
           clear hown5 hgr5
           go_wp2_with (at_make; refine wpList_make_full _ rfl _ _ 128 rfl w5.heap.size 4 b0 (.bool false) 1 Tryz.underlying128 hb bz0 bz1 _ _ _ _ K rfl rfl rfl rfl (by rw [bz2]; omega) (by unfold maxLen; omega) (Nat.le_refl _) ?_)
           intro w6 hown6 hgr6
           have B6:=Lib.hid (show Below w5.heap.size w5 w6 from (Below.refl w5.heap.size w5).grown hgr6 (Nat.le_refl _) (fun k h=>by cases h))
           have G6:=Lib.hid (RowV.of_owns (F:=bkF l L u 0) (cap:=0) hown6 (fun p hp=>by
            unfold bkF
            rw [if_neg (by omega)]
            show ((madeCells #[.bool false] _).toList)[p]? = _
            rw [toList_madeCells_one,List.getElem?_replicate,if_pos (by omega)]))
           have A6:=Lib.hid (A5.out.below B6.out)
           clear hown6 hgr6 jz0 jz1 jz2 bz0 bz1 bz2
           have BX:=Lib.hid (show Below w4.heap.size w4 w6 from B5.out.trans (B6.out.mono B5.out.size))
           have R6:=Lib.hid (R4.out.below BX.out)
           have WC6:Hid (∀ j,j<K→w6.cell? ⟨gw,j,none⟩=some (.int .u8 (u j))):=Lib.hid (fun j hj=>(BX.out.cell (p:=⟨gw,j,none⟩) hgw).trans (WC.out j hj))
           have BY:=Lib.hid (B4.out.trans (BX.out.mono B4.out.size))
           have hgw6:=Nat.lt_of_lt_of_le hgw BX.out.size
           have ga4:w4.heap.size≤w4.heap.size:=Nat.le_refl _
           have hga:w4.heap.size≠gw:=by omega
           have hgb:w5.heap.size≠gw:=by have:=B5.out.size; omega
           have hgab:w4.heap.size≠w5.heap.size:=A6.out.ne G6.out (by decide)
           have hgal:w4.heap.size≠w1.heap.size:=A6.out.ne R6.out (by decide)
           have hgbl:w5.heap.size≠w1.heap.size:=G6.out.ne R6.out (by decide)
           have hdb:Hid (∀ m,m<l.length→∃ b off,ao=some ⟨b,off,none⟩∧b<w1.heap.size∧w6.cell? ⟨b,off + m * 3,none⟩=some (.int .u8 (dbt l m).fr)∧w6.cell? ⟨b,off + m * 3 + 1,none⟩=some (.int .u8 (dbt l m).tt)∧w6.cell? ⟨b,off + m * 3 + 2,none⟩=some (.int .i64 (dbt l m).am)):=Lib.hid (fun m hm=>by
            obtain ⟨b,off,h1,h2,h3⟩:=(HC.out.below B1.out) (by omega)
            obtain ⟨e0,e1,e2⟩:=h3 m hm
            exact ⟨b,off,h1,h2,(BY.out.cell (p:=⟨b,off + m * 3,none⟩) h2).trans e0,(BY.out.cell (p:=⟨b,off + m * 3 + 1,none⟩) h2).trans e1,(BY.out.cell (p:=⟨b,off + m * 3 + 2,none⟩) h2).trans e2⟩)
           have h14:w1.heap.size≤w4.heap.size:=B4.out.size
           have h45:w4.heap.size≤w5.heap.size:=B5.out.size
           have h56:w5.heap.size<w6.heap.size:=G6.out.lt
           have HG:=Lib.hid (And.intro h14 (And.intro h45 h56))
           clear A5 WC B5 B6 BX B4 R4 hgw
           generalize hga0:w4.heap.size=ga at *
           generalize hgb0:w5.heap.size=gb at *
           go_wp2_with fail
           go_loopw [15,16] (L4At w6 l L u K ga gb) (fun _ x _=>K - (intOf x).toNat)
           case atStart=>exact ⟨0,by omega,rfl,rfl,A6.out,G6.out,Keep.refl _ _⟩
           case round =>
            as_aux_lemma =>
             clear A6 G6
             obtain ⟨j,hj,rfl,rfl,hA,hG,hK6⟩:=hrel
             have AR:=Lib.hid hA
             have GR:=Lib.hid hG
             have KK:=Lib.hid hK6
             have hal:=hA.lt
             have hbl:=hG.lt
             clear hA hG hK6
             by_cases hjK:j<K
             ·have qk:decide ((j:Int)<(K:Int))=true:=by simpa using hjK
              have i0:(0:Int)≤(j:Int):=by omega
              have i1:(j:Int)<(K:Int):=by omega
              have hrem:((j:Int) + 1).tmod (K:Int)=(((j + 1) % K:Nat):Int):=by
               rw [Int.tmod_eq_emod_of_nonneg (by omega),Int.natCast_emod]
               rfl
              have hjm:(j + 1) % K<K:=Nat.mod_lt _ (by omega)
              have dj:=(KK.out.cell (p:=⟨gw,j,none⟩) hgw6 (by rintro (e | e) <;> (have e:=e; dsimp only at e; omega))).trans (WC6.out j hjK)
              have dm:=(KK.out.cell (p:=⟨gw,(j + 1) % K,none⟩) hgw6 (by rintro (e | e) <;> (have e:=e; dsimp only at e; omega))).trans (WC6.out ((j + 1) % K) hjm)
              rw [UK.out (j + 1)] at dm
              have hgwr:=Nat.lt_of_lt_of_le hgw6 KK.out.size
              obtain ⟨pa,hpa⟩:∃ x,u j=x:=⟨_,rfl⟩
              obtain ⟨pb,hpb⟩:∃ x,u (j + 1)=x:=⟨_,rfl⟩
              rw [hpa] at dj
              rw [hpb] at dm
              have PA:=Lib.hid hpa
              have PB:=Lib.hid hpb
              have SJ:=Lib.hid (show StD l L c pa pb from by rw [← hpa,← hpb]; exact ST.out j hjK)
              have NXA:Hid (∀ x,x<K→atF l L u (j + 1) x=if x=j then .int .i64 (ixS l L pa pb:Nat) else atF l L u j x):=Lib.hid (fun x hx=>by
               unfold atF
               by_cases e:x=j
               ·subst e; rw [if_pos (by omega),if_pos rfl,hpa,hpb]
               ·rw [if_neg e]
                by_cases h:x<j
                ·rw [if_pos h,if_pos (by omega)]
                ·rw [if_neg h,if_neg (by omega)])
              have NXB:Hid (∀ x,x<K→bkF l L u (j + 1) x=if x=j then .bool (bkS l L pa pb) else bkF l L u j x):=Lib.hid (fun x hx=>by
               unfold bkF
               by_cases e:x=j
               ·subst e; rw [if_pos (by omega),if_pos rfl,hpa,hpb]
               ·rw [if_neg e]
                by_cases h:x<j
                ·rw [if_pos h,if_pos (by omega)]
                ·rw [if_neg h,if_neg (by omega)])
              have BJ:Hid (bkF l L u j j=.bool false):=Lib.hid (by unfold bkF; rw [if_neg (Nat.lt_irrefl j)])
              have NXM:Hid (minK l L u (j + 1)=min (minK l L u j) (avS l L pa pb)):=Lib.hid (by rw [← hpa,← hpb]; rfl)
              have da:=AR.out.cell hjK
              rw [show atF l L u j j=.int .i64 0 by unfold atF; rw [if_neg (Nat.lt_irrefl j)]] at da
              have fa:=AR.out.frozen j
              have A2:=Lib.hid ((AR.out.set hjK (.int .i64 (-1))).congr (G:=fun x=>if x=j then optV (lastI (pA l L pa pb) 0) else atF l L u j x) (fun x hx=>rfl))
              have K2:=Lib.hid (KK.out.setCell (p:=⟨ga,j,none⟩) (.inl (.inl rfl)) (.int .i64 (-1)))
              have G2:=Lib.hid (GR.out.keep (S:=fun x=>x=ga) (Keep.setCell (S:=fun x=>x=ga) (Keep.refl _ wr) (p:=⟨ga,j,none⟩) (.inl rfl) (.int .i64 (-1))) (fun e=>hgab e.symm))
              clear AR KK GR hpa hpb
              generalize (j + 1) % K=jm at *
              have hji:(jm:Int)<(K:Int):=by omega
              have hjz:(0:Int)≤(jm:Int):=by omega
              go_wp2_with fail
              generalize wr.setCell ⟨ga,j,none⟩ (.int .i64 (-1))=W5 at *
              have hal5:=A2.out.lt
              go_loopw [19] (L5At W5 (pA l L pa pb) l.length K ga (atF l L u j) j) (fun x _=>l.length - (intOf x).toNat)
              case atStart=>exact ⟨0,by omega,rfl,A2.out,Keep.refl _ _⟩
              case round =>
               as_aux_lemma =>
                clear A2 dj dm da fa hal hbl
                obtain ⟨i,hi,rfl,hA,hK5⟩:=hrel
                have AR:=Lib.hid hA
                have KZ:=Lib.hid hK5
                have hal:=hA.lt
                have K3:=Lib.hid (K2.out.trans (hK5.mono (fun x _ h=>.inl h)))
                clear hA hK5
                by_cases hil:i<l.length
                ·have ql:decide ((i:Int)<(l.length:Int))=true:=by simpa using hil
                 have i2:(0:Int)≤(i:Int):=by omega
                 have i3:(i:Int)<(l.length:Int):=by omega
                 obtain ⟨b,off,rfl,hbl1,e0,e1,e2⟩:=hdb.out i hil
                 have hb6:b<w6.heap.size:=by omega
                 have nb:¬ (b=ga∨b=gb):=by omega
                 have d0:=(K3.out.cell (p:=⟨b,off + i * 3,none⟩) hb6 nb).trans e0
                 have d1:=(K3.out.cell (p:=⟨b,off + i * 3 + 1,none⟩) hb6 nb).trans e1
                 have hbr:=Nat.lt_of_lt_of_le hb6 K3.out.size
                 have nl:¬ (w1.heap.size=ga∨w1.heap.size=gb):=by rintro (e | e); exact hgal e.symm; exact hgbl e.symm
                 have dL:=(K3.out.cell (p:=⟨w1.heap.size,i,none⟩) R6.out.lt nl).trans (R6.out.cell hil)
                 have hlr:=Nat.lt_of_lt_of_le R6.out.lt K3.out.size
                 unfold lvF2 at dL
                 have NXL:=Lib.hid (lastI_next (pA l L pa pb) i)
                 have PI:Hid (pA l L pa pb i=((dbt l i).fr==pa && (dbt l i).tt==pb && decide (0<L i))):=Lib.hid rfl
                 generalize dbt l i=x at *
                 obtain ⟨n,hn⟩:∃ n,L i=n:=⟨_,rfl⟩
                 rw [hn] at dL PI
                 have HIL:=Lib.hid hil
                 have da:=AR.out.cell hjK
                 have fa:=AR.out.frozen j
                 have AS:=Lib.hid (AR.out.set hjK (.int .i64 (i:Nat)))
                 have KS:=Lib.hid (KZ.out.setCell (p:=⟨ga,j,none⟩) (.inl rfl) (.int .i64 (i:Nat)))
                 obtain ⟨ov,hov⟩:∃ ov,(if j=j then optV (lastI (pA l L pa pb) i) else atF l L u j j)=ov:=⟨_,rfl⟩
                 rw [hov] at da
                 clear hov hn e0 e1 e2
                 have keepit:pA l L pa pb i=false→L5At W5 (pA l L pa pb) l.length K ga (atF l L u j) j (.int .i64 ((i:Int) + 1)) wr:=fun h=>⟨i + 1,by omega,by go_num,AR.out.congr (fun x hx=>by rw [NXL.out,h]; rfl),KZ.out⟩
                 have putit:pA l L pa pb i=true→L5At W5 (pA l L pa pb) l.length K ga (atF l L u j) j (.int .i64 ((i:Int) + 1)) (wr.setCell ⟨ga,j,none⟩ (.int .i64 (i:Nat))):=fun h=>⟨i + 1,by omega,by go_num,AS.out.congr (fun x hx=>by
                  by_cases e:x=j
                  ·rw [if_pos e,if_pos e,NXL.out,h]; rfl
                  ·rw [if_neg e,if_neg e,if_neg e]),KS.out⟩
                 have HKI:=Lib.hid keepit
                 have HPI:=Lib.hid putit
                 clear keepit putit AS KS AR KZ
                 by_cases h1:x.fr=pa
                 ·have q1:(x.fr==pa)=true:=by simpa using h1
                  by_cases h2:x.tt=pb
                  ·have q2:(x.tt==pb)=true:=by simpa using h2
                   by_cases h3:0<n
                   ·have q3:decide (0<n)=true:=by simpa using h3
                    have RR1:=Lib.hid (HPI.out (by rw [PI.out,q1,q2,q3]; rfl))
                    clear h1 h2 h3
                    go_wp2_with fail
                    exact ⟨RR1.out,by simp [intOf]; have:=HIL.out; omega⟩
                   ·have q3:decide (0<n)=false:=by simpa using h3
                    have RR1:=Lib.hid (HKI.out (by rw [PI.out,q1,q2,q3]; rfl))
                    clear h1 h2 h3
                    go_wp2_with fail
                    exact ⟨RR1.out,by simp [intOf]; have:=HIL.out; omega⟩
                  ·have q2:(x.tt==pb)=false:=by simpa using h2
                   have RR1:=Lib.hid (HKI.out (by rw [PI.out,q1,q2]; rfl))
                   clear h1 h2
                   go_wp2_with fail
                   exact ⟨RR1.out,by simp [intOf]; have:=HIL.out; omega⟩
                 ·have q1:(x.fr==pa)=false:=by simpa using h1
                  have RR1:=Lib.hid (HKI.out (by rw [PI.out,q1]; rfl))
                  clear h1
                  go_wp2_with fail
                  exact ⟨RR1.out,by simp [intOf]; have:=HIL.out; omega⟩
                ·have hin:i=l.length:=by omega
                 subst hin
                 have ql:decide (((l.length:Nat):Int)<(l.length:Int))=false:=by simp
                 have da:=AR.out.cell hjK
                 rw [if_pos rfl] at da
                 have G3:=Lib.hid (G2.out.keep KZ.out (fun e=>hgab e.symm))
                 have nl:¬ (w1.heap.size=ga∨w1.heap.size=gb):=by rintro (e | e); exact hgal e.symm; exact hgbl e.symm
                 obtain ⟨m0,hm0⟩:∃ x,minK l L u j=x:=⟨_,rfl⟩
                 have M0:=Lib.hid (show 0≤m0∧m0≤1099511627776 by
                  rw [← hm0]
                  exact ⟨by have:=minK_pos l L u j (fun y hy=>(ST.out y (by omega)).av); omega,(minK_le l L u j).1⟩)
                 rw [hm0] at NXM ⊢
                 clear hm0
                 obtain ⟨m00,m09⟩:=M0.out
                 cases hlast:lastI (pA l L pa pb) l.length with
                 | some ix =>
                  have hbk:bkS l L pa pb=false:=by unfold bkS; rw [hlast]; rfl
                  have hix:ixS l L pa pb=ix:=by unfold ixS; rw [hlast]
                  have hixl:=(lastI_some hlast).1
                  rw [hlast] at da
                  replace da:wr.cell? ⟨ga,j,none⟩=some (.int .i64 (ix:Nat)):=da
                  have x0:(0:Int)≤(ix:Int):=by omega
                  have x1:(ix:Int)<(l.length:Int):=by omega
                  have qi:decide ((ix:Int)<0)=false:=decide_eq_false (by omega)
                  have dL:=(K3.out.cell (p:=⟨w1.heap.size,ix,none⟩) R6.out.lt nl).trans (R6.out.cell hixl)
                  unfold lvF2 at dL
                  have hlr:=Nat.lt_of_lt_of_le R6.out.lt K3.out.size
                  have AV:Hid (avS l L pa pb=L ix):=Lib.hid (by unfold avS; rw [hbk,hix]; rfl)
                  rw [AV.out] at NXM
                  have A7:=Lib.hid (AR.out.congr (G:=atF l L u (j + 1)) (fun x hx=>by
                   rw [NXA.out x hx,hlast,hix]; rfl))
                  have G7:=Lib.hid (G3.out.congr (G:=bkF l L u (j + 1)) (fun x hx=>by
                   rw [NXB.out x hx,hbk]
                   split
                   ·rename_i e; subst e; exact BJ.out
                   ·rfl))
                  have HJK:=Lib.hid hjK
                  obtain ⟨n,hn⟩:∃ n,L ix=n:=⟨_,rfl⟩
                  rw [hn] at dL NXM
                  clear hlast hbk hix AR G3 G2 KZ K2 AV hn
                  rcases Int.lt_or_le n m0 with hmn | hmn
                  ·rw [Int.min_eq_right (by omega)] at NXM
                   go_wp2_with fail
                   exact ⟨⟨j + 1,by have:=HJK.out; omega,by go_num,by rw [NXM.out],A7.out,G7.out,K3.out⟩,by simp [intOf]; have:=HJK.out; omega⟩
                  ·rw [Int.min_eq_left (by omega)] at NXM
                   go_wp2_with fail
                   exact ⟨⟨j + 1,by have:=HJK.out; omega,by go_num,by rw [NXM.out],A7.out,G7.out,K3.out⟩,by simp [intOf]; have:=HJK.out; omega⟩
                 | none =>
                  have hbk:bkS l L pa pb=true:=by unfold bkS; rw [hlast]; rfl
                  rw [hlast] at da
                  replace da:wr.cell? ⟨ga,j,none⟩=some (.int .i64 (-1)):=da
                  have dB:=G3.out.cell hjK
                  rw [BJ.out] at dB
                  have fB:=G3.out.frozen j
                  have hbl:=G3.out.lt
                  have G4:=Lib.hid ((G3.out.set hjK (.bool true)).congr (G:=bkF l L u (j + 1)) (fun x hx=>by rw [NXB.out x hx,hbk]))
                  have A4:=Lib.hid ((AR.out.keep (S:=fun x=>x=gb) (Keep.setCell (S:=fun x=>x=gb) (Keep.refl _ wr) (p:=⟨gb,j,none⟩) (.inl rfl) (.bool true)) hgab).congr (G:=fun x=>if x=j then optV (lastI (pB l pa pb) 0) else atF l L u j x) (fun x hx=>by rw [hlast]; rfl))
                  have K4:=Lib.hid (K3.out.setCell (p:=⟨gb,j,none⟩) (.inl (.inr rfl)) (.bool true))
                  have HBK:=Lib.hid hbk
                  have HLA:=Lib.hid hlast
                  clear hlast hbk AR G3 G2 KZ K2 K3
                  go_wp2_with fail
                  generalize wr.setCell ⟨gb,j,none⟩ (.bool true)=W6 at *
                  go_loopw [20] (L5At W6 (pB l pa pb) l.length K ga (atF l L u j) j) (fun x _=>l.length - (intOf x).toNat)
                  case atStart=>exact ⟨0,by omega,rfl,A4.out,Keep.refl _ _⟩
                  case round =>
                   as_aux_lemma =>
                    clear A4 da dB fB hal hbl
                    obtain ⟨i,hi,rfl,hA,hK5⟩:=hrel
                    have AR:=Lib.hid hA
                    have KZ:=Lib.hid hK5
                    have hal:=hA.lt
                    have K5:=Lib.hid (K4.out.trans (hK5.mono (fun x _ h=>.inl h)))
                    clear hA hK5
                    by_cases hil:i<l.length
                    ·have ql:decide ((i:Int)<(l.length:Int))=true:=by simpa using hil
                     have i2:(0:Int)≤(i:Int):=by omega
                     have i3:(i:Int)<(l.length:Int):=by omega
                     obtain ⟨b,off,rfl,hbl1,e0,e1,e2⟩:=hdb.out i hil
                     have hb6:b<w6.heap.size:=by omega
                     have nb:¬ (b=ga∨b=gb):=by omega
                     have d0:=(K5.out.cell (p:=⟨b,off + i * 3,none⟩) hb6 nb).trans e0
                     have d1:=(K5.out.cell (p:=⟨b,off + i * 3 + 1,none⟩) hb6 nb).trans e1
                     have hbr:=Nat.lt_of_lt_of_le hb6 K5.out.size
                     have NXL:=Lib.hid (lastI_next (pB l pa pb) i)
                     have PI:Hid (pB l pa pb i=((dbt l i).fr==pb && (dbt l i).tt==pa)):=Lib.hid rfl
                     generalize dbt l i=x at *
                     have HIL:=Lib.hid hil
                     have da:=AR.out.cell hjK
                     have fa:=AR.out.frozen j
                     have AS:=Lib.hid (AR.out.set hjK (.int .i64 (i:Nat)))
                     have KS:=Lib.hid (KZ.out.setCell (p:=⟨ga,j,none⟩) (.inl rfl) (.int .i64 (i:Nat)))
                     obtain ⟨ov,hov⟩:∃ ov,(if j=j then optV (lastI (pB l pa pb) i) else atF l L u j j)=ov:=⟨_,rfl⟩
                     rw [hov] at da
                     clear hov e0 e1 e2
                     have keepit:pB l pa pb i=false→L5At W6 (pB l pa pb) l.length K ga (atF l L u j) j (.int .i64 ((i:Int) + 1)) wr:=fun h=>⟨i + 1,by omega,by go_num,AR.out.congr (fun x hx=>by rw [NXL.out,h]; rfl),KZ.out⟩
                     have putit:pB l pa pb i=true→L5At W6 (pB l pa pb) l.length K ga (atF l L u j) j (.int .i64 ((i:Int) + 1)) (wr.setCell ⟨ga,j,none⟩ (.int .i64 (i:Nat))):=fun h=>⟨i + 1,by omega,by go_num,AS.out.congr (fun x hx=>by
                      by_cases e:x=j
                      ·rw [if_pos e,if_pos e,NXL.out,h]; rfl
                      ·rw [if_neg e,if_neg e,if_neg e]),KS.out⟩
                     have HKI:=Lib.hid keepit
                     have HPI:=Lib.hid putit
                     clear keepit putit AS KS AR KZ
                     by_cases h1:x.fr=pb
                     ·have q1:(x.fr==pb)=true:=by simpa using h1
                      by_cases h2:x.tt=pa
                      ·have q2:(x.tt==pa)=true:=by simpa using h2
                       have RR1:=Lib.hid (HPI.out (by rw [PI.out,q1,q2]; rfl))
                       clear h1 h2
                       go_wp2_with fail
                       exact ⟨RR1.out,by simp [intOf]; have:=HIL.out; omega⟩
                      ·have q2:(x.tt==pa)=false:=by simpa using h2
                       have RR1:=Lib.hid (HKI.out (by rw [PI.out,q1,q2]; rfl))
                       clear h1 h2
                       go_wp2_with fail
                       exact ⟨RR1.out,by simp [intOf]; have:=HIL.out; omega⟩
                     ·have q1:(x.fr==pb)=false:=by simpa using h1
                      have RR1:=Lib.hid (HKI.out (by rw [PI.out,q1]; rfl))
                      clear h1
                      go_wp2_with fail
                      exact ⟨RR1.out,by simp [intOf]; have:=HIL.out; omega⟩
                    ·have hin:i=l.length:=by omega
                     subst hin
                     have ql:decide (((l.length:Nat):Int)<(l.length:Int))=false:=by simp
                     have hixl:=SJ.out.ix
                     have hpb:pB l pa pb (ixS l L pa pb)=true:=by
                      rcases SJ.out.is with ⟨e,_⟩ | ⟨_,e1,e2,_⟩
                      ·rw [HBK.out] at e; cases e
                      ·unfold pB; simp only [Bool.and_eq_true,beq_iff_eq]; exact ⟨e1,e2⟩
                     have hlb:lastI (pB l pa pb) l.length=some (ixS l L pa pb):=by
                      cases hc:lastI (pB l pa pb) l.length with
                      | none=>rw [lastI_none hc _ hixl] at hpb; cases hpb
                      | some y=>unfold ixS; rw [HLA.out,hc]; rfl
                     have da:=AR.out.cell hjK
                     rw [if_pos rfl,hlb] at da
                     have A7:=Lib.hid (AR.out.congr (G:=atF l L u (j + 1)) (fun x hx=>by
                      rw [NXA.out x hx,hlb]; rfl))
                     have G7:=Lib.hid (G4.out.keep KZ.out (fun e=>hgab e.symm))
                     have AV:Hid (avS l L pa pb=(dbt l (ixS l L pa pb)).am - L (ixS l L pa pb)):=Lib.hid (by unfold avS; rw [HBK.out]; rfl)
                     rw [AV.out] at NXM
                     have hlo:=HI.out.ok.lo _ hixl
                     have hhi:=HI.out.ok.hi _ hixl
                     have hmx:=(HM.out.ok _ hixl).2.2.2.2
                     obtain ⟨b,off,rfl,hbl1,e0,e1,e2⟩:=hdb.out _ hixl
                     have hb6:b<w6.heap.size:=by omega
                     have nb:¬ (b=ga∨b=gb):=by omega
                     have d2:=(K5.out.cell (p:=⟨b,off + ixS l L pa pb * 3 + 2,none⟩) hb6 nb).trans e2
                     have hbr:=Nat.lt_of_lt_of_le hb6 K5.out.size
                     have dL:=(K5.out.cell (p:=⟨w1.heap.size,ixS l L pa pb,none⟩) R6.out.lt nl).trans (R6.out.cell hixl)
                     have hlr:=Nat.lt_of_lt_of_le R6.out.lt K5.out.size
                     unfold lvF2 at dL
                     clear AR G4 KZ K4 AV hpb hlb e0 e1 e2
                     generalize ixS l L pa pb=ix at *
                     replace da:wr.cell? ⟨ga,j,none⟩=some (.int .i64 (ix:Nat)):=da
                     have x0:(0:Int)≤(ix:Int):=by omega
                     have x1:(ix:Int)<(l.length:Int):=by omega
                     have HJK:=Lib.hid hjK
                     obtain ⟨n,hn⟩:∃ n,L ix=n:=⟨_,rfl⟩
                     obtain ⟨am,ham⟩:∃ am,(dbt l ix).am=am:=⟨_,rfl⟩
                     rw [hn] at dL NXM hlo hhi
                     rw [ham] at d2 NXM hhi hmx
                     clear hn ham
                     rcases Int.lt_or_le (am - n) m0 with hmn | hmn
                     ·rw [Int.min_eq_right (by omega)] at NXM
                      go_wp2_with fail
                      first | go_quiet (fail) | go_region
                      all_goals
                       go_wp2_with fail
                       exact ⟨⟨j + 1,by have:=HJK.out; omega,by go_num,by rw [NXM.out],A7.out,G7.out,⟨K5.out.os,K5.out.tape,K5.out.output,K5.out.size,K5.out.block⟩⟩,by simp [intOf]; have:=HJK.out; omega⟩
                     ·rw [Int.min_eq_left (by omega)] at NXM
                      go_wp2_with fail
                      first | go_quiet (fail) | go_region
                      all_goals
                       go_wp2_with fail
                       exact ⟨⟨j + 1,by have:=HJK.out; omega,by go_num,by rw [NXM.out],A7.out,G7.out,⟨K5.out.os,K5.out.tape,K5.out.output,K5.out.size,K5.out.block⟩⟩,by simp [intOf]; have:=HJK.out; omega⟩
             ·-- LOOP7
              as_aux_lemma =>
               have hjn:j=K:=by omega
               subst hjn
               have qk:decide (((j:Nat):Int)<(j:Int))=false:=by simp
               rw [← AM.out]
               have nl:¬ (w1.heap.size=ga∨w1.heap.size=gb):=by rintro (e | e); exact hgal e.symm; exact hgbl e.symm
               have R7:=Lib.hid (R6.out.keep KK.out nl)
               have N9:amtD l L≤1099511627776:=by rw [AM.out]; exact (minK_le l L u j).1
               have n1:=N1.out
               go_wp2_with fail
               obtain ⟨W7,hW7⟩:∃ x,x=wr:=⟨_,rfl⟩
               subst hW7
               go_loopw [21] (L7At W7 l L u (amtD l L) j w1.heap.size) (fun x _=>j - (intOf x).toNat)
               case atStart=>exact ⟨0,by omega,rfl,R7.out,Keep.refl _ _⟩
               case round =>
                as_aux_lemma =>
                 clear R7 hal hbl qk
                 obtain ⟨i,hi,rfl,hR,hK7⟩:=hrel
                 have RZ:=Lib.hid hR
                 have KZ:=Lib.hid hK7
                 have hll:=hR.lt
                 clear hR hK7
                 by_cases hij:i<j
                 ·have qk:decide ((i:Int)<(j:Int))=true:=by simpa using hij
                  have i0:(0:Int)≤(i:Int):=by omega
                  have i1:(i:Int)<(j:Int):=by omega
                  have AZ:=Lib.hid (AR.out.keep KZ.out hgal)
                  have GZ:=Lib.hid (GR.out.keep KZ.out hgbl)
                  have hal:=AZ.out.lt
                  have hbl:=GZ.out.lt
                  have da:=AZ.out.cell hij
                  have db:=GZ.out.cell hij
                  unfold atF at da
                  unfold bkF at db
                  rw [if_pos hij] at da db
                  have hst:=ST.out i hij
                  have hixl:=hst.ix
                  have hof:=(tk_gen (n:=amtD l L) AP.out i (by omega)).1 _ (fun y hy=>AP.out y i hy hij)
                  have hlo:=HI.out.ok.lo _ hixl
                  have hhi:=HI.out.ok.hi _ hixl
                  have hmx:=(HM.out.ok _ hixl).2.2.2.2
                  have dL:=RZ.out.cell hixl
                  unfold lvF2 at dL
                  have fL:=RZ.out.frozen (ixS l L (u i) (u (i + 1)))
                  have NXT:Hid (tkK l L u (amtD l L) (i + 1)=updL (tkK l L u (amtD l L) i) (ixS l L (u i) (u (i + 1))) (tkK l L u (amtD l L) i (ixS l L (u i) (u (i + 1))) + (if bkS l L (u i) (u (i + 1)) then amtD l L else -amtD l L))):=Lib.hid rfl
                  have HLX:Hid (0≤L (ixS l L (u i) (u (i + 1)))∧L (ixS l L (u i) (u (i + 1)))≤1099511627776):=Lib.hid (by omega)
                  rw [hof] at dL NXT
                  generalize ixS l L (u i) (u (i + 1))=ix at *
                  obtain ⟨n,hn⟩:∃ n,L ix=n:=⟨_,rfl⟩
                  rw [hn] at dL NXT HLX
                  obtain ⟨n0,n9⟩:=HLX.out
                  have x0:(0:Int)≤(ix:Int):=by omega
                  have x1:(ix:Int)<(l.length:Int):=by omega
                  have HIJ:=Lib.hid hij
                  have RS:=fun v=>RZ.out.set hixl (.int .i64 v)
                  have KS:=fun v=>KZ.out.setCell (p:=⟨w1.heap.size,ix,none⟩) (.inl rfl) (.int .i64 v)
                  have NEXT:Hid (∀ v,v=n + (if bkS l L (u i) (u (i + 1)) then amtD l L else -amtD l L)→L7At W7 l L u (amtD l L) j w1.heap.size (.int .i64 ((i:Int) + 1)) ((wr.setCell ⟨w1.heap.size,ix,none⟩ (.int .i64 v)).drew)):=Lib.hid (fun v hv=>⟨i + 1,by omega,by go_num,((RS v).congr (fun x hx=>by
                   unfold lvF2
                   rw [NXT.out,← hv]
                   unfold updL
                   split <;> rfl)).drew,(KS v).drew⟩)
                  clear hst hof hlo hhi hmx hn RZ KZ AZ GZ NXT RS KS HLX
                  cases hbk:bkS l L (u i) (u (i + 1)) with
                  | true =>
                   rw [hbk] at db NEXT
                   have E:=Lib.hid (NEXT.out (n + amtD l L) rfl)
                   clear NEXT hbk
                   generalize amtD l L=nm at *
                   go_wp2_with fail
                   go_region
                   all_goals
                    go_wp2_with fail
                    exact ⟨E.out,by simp [intOf]; have:=HIJ.out; omega⟩
                  | false =>
                   rw [hbk] at db NEXT
                   have E:=Lib.hid (NEXT.out (n - amtD l L) (by simp only [Bool.false_eq_true,if_false]; omega))
                   clear NEXT hbk
                   generalize amtD l L=nm at *
                   go_wp2_with fail
                   go_region
                   all_goals
                    go_wp2_with fail
                    exact ⟨E.out,by simp [intOf]; have:=HIJ.out; omega⟩
                 ·have hin:i=j:=by omega
                  subst hin
                  have qk:decide (((i:Nat):Int)<(i:Int))=false:=by simp
                  rw [← TK.out] at RZ
                  have BZ:Hid (Below w1.heap.size w1 wr):=Lib.hid (BY.out.trans ((KK.out.below (B:=w1.heap.size) (by omega) (fun x hx=>by omega)).trans (KZ.out.below (B:=w1.heap.size) (by have:=KK.out.size; omega) (fun x hx e=>by omega))))
                  have HK1':=HK1.out
                  go_wp2_with fail
                  refine ⟨⟨k + 1,nextD l L,HST.out,HK3.out,by go_num,?_,?_⟩,?_⟩
                  ·exact RZ.out
                  ·exact BZ.out
                  ·simp [intOf]; omega
end Go.Proofs.YtlbjjkbppbmihaaGreat
