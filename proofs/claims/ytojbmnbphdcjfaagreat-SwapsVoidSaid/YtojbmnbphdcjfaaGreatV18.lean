/-
  Pieces of one proof, without what is not wanted: SwapMath, Ref04e, PB8, Lives10, SwapLv, SwapSay.
-/
import Derived.Test.YtojbmnbphdcjfaaGreatV01
import Derived.Test.YtojbmnbphdcjfaaGreatV02
import Derived.Test.YtojbmnbphdcjfaaGreatV05
import Derived.Test.YtojbmnbphdcjfaaGreatV12
import Derived.Test.YtojbmnbphdcjfaaGreatV14
import Derived.Test.YtojbmnbphdcjfaaGreatV15
import Derived.Test.YtojbmnbphdcjfaaGreatV16
import Derived.Test.YtojbmnbphdcjfaaGreatV17
import Derived.Maps.AppendAt
import Derived.Deep.RegionLaw
import Derived.Laws.AppendOwnNone
import Derived.Deep.RegionWith
set_option linter.unusedSimpArgs false
set_option linter.unusedVariables false
namespace Go.Proofs.YtojbmnbphdcjfaaGreat
noncomputable def routeS (f:Int→Int→Int) (a b n:Int):RS:=@Classical.epsilon RS ⟨⟨f,n,[]⟩⟩ (fun μ=>IsRoute f 4398046511104 a b n μ)
theorem routeS_is {f:Int→Int→Int} (h:GInv f 4398046511104) (a b n:Int):IsRoute f 4398046511104 a b n (routeS f a b n) :=
 @Classical.epsilon_spec RS (fun μ=>IsRoute f 4398046511104 a b n μ) (route_ends h a b n)
noncomputable def mostS (ps:List Int) (ls:List Ln) (c a b:Int):Int:=mostW - (routeS (roomF ps ls c) a b mostW).left
theorem goesS {ps:List Int} {ls:List Ln} (h:LInv ps ls) (o:Of) (tk pt:Int):Goes ps ls o tk pt (mostS ps ls o.sl o.ow pt) (mostS ps ls o.bu tk o.ow) :=
 ⟨⟨_,routeS_is (roomF_inv h _) _ _ _,rfl⟩,_,routeS_is (roomF_inv h _) _ _ _,rfl⟩
theorem Goes.eqS {ps:List Int} {ls:List Ln} {o:Of} {tk pt m1 m2:Int} (h:LInv ps ls) (g:Goes ps ls o tk pt m1 m2):m1=mostS ps ls o.sl o.ow pt∧m2=mostS ps ls o.bu tk o.ow:=by
 obtain ⟨⟨μ,h1,rfl⟩,ν,h2,rfl⟩:=g
 unfold mostS
 rw [h1.eq (routeS_is (roomF_inv h _) _ _ _),h2.eq (routeS_is (roomF_inv h _) _ _ _)]
 exact ⟨rfl,rfl⟩
noncomputable def mayS (ps:List Int) (ls:List Ln) (l:List Of) (tk pt want most s:Int):Int:=match findO l s with
 | none=>0
 | some o=>mayO o ps tk pt want most (mostS ps ls o.sl o.ow pt) (mostS ps ls o.bu tk o.ow)
theorem mayS_eq {ps:List Int} {ls:List Ln} (h:LInv ps ls) {l:List Of} {tk pt want most s m1 m2:Int} (g:∀ o,findO l s=some o→Goes ps ls o tk pt m1 m2):mayV l ps s tk pt want most m1 m2=mayS ps ls l tk pt want most s:=by
 unfold mayV mayS
 cases hf:findO l s with
 | none=>rfl
 | some o =>
  obtain ⟨e1,e2⟩:=(g o hf).eqS h
  simp only []
  rw [e1,e2]
noncomputable def paidS (ps:List Int) (ls:List Ln) (a b c n:Int):List Ln:=payL ps ls a b c n (routeS (roomF ps ls c) a b n)
noncomputable def filledS (ps:List Int) (ls:List Ln) (o:Of) (tk pt n x:Int):List Ln:=paidS ps (if pt=o.ow then ls else paidS ps ls o.ow pt o.sl n) tk o.ow o.bu x
theorem paidS_inv {ps:List Int} {ls:List Ln} (h:LInv ps ls) (a b c n:Int):LInv ps (paidS ps ls a b c n):=payL_inv h _ _ _ _ _
theorem filledS_is {ps:List Int} {ls:List Ln} (h:LInv ps ls) (o:Of) (tk pt n x:Int):Filled ps ls o tk pt n x (filledS ps ls o tk pt n x):=by
 unfold filledS
 by_cases e:pt=o.ow
 ·rw [if_pos e]
  exact ⟨ls,_,.inl ⟨e,rfl⟩,routeS_is (roomF_inv h _) _ _ _,rfl⟩
 ·rw [if_neg e]
  exact ⟨_,_,.inr ⟨e,_,routeS_is (roomF_inv h _) _ _ _,rfl⟩,routeS_is (roomF_inv (paidS_inv h _ _ _ _) _) _ _ _,rfl⟩
theorem filledS_inv {ps:List Int} {ls:List Ln} (h:LInv ps ls) (o:Of) (tk pt n x:Int):LInv ps (filledS ps ls o tk pt n x):=(filledS_is h o tk pt n x).inv h
def okS (ps:List Int) (ls:List Ln) (l:List Of) (tk pt n s:Int):Prop:=1≤n∧n≤mayS ps ls l tk pt n 1099511627776 s
theorem okS_iff {ps:List Int} {ls:List Ln} (h:LInv ps ls) {l:List Of} {tk pt n s m1 m2:Int} (g:∀ o,findO l s=some o→Goes ps ls o tk pt m1 m2):doOk l ps s tk pt n m1 m2↔okS ps ls l tk pt n s:=by
 unfold doOk okS
 rw [mayS_eq h g]
theorem may_okS {ps:List Int} {ls:List Ln} (h:LInv ps ls) {l:List Of} {tk pt want most s k:Int} (hk:k=mayS ps ls l tk pt want most s) (h1:1≤k):okS ps ls l tk pt k s∧k≤want:=by
 obtain ⟨m1,m2,g,b1,b2⟩:=goes_some h l s tk pt
 have e:mayV l ps s tk pt want most m1 m2=k:=by rw [mayS_eq h g,hk]
 obtain ⟨a,b,_⟩:=may_do b1 b2 e h1
 exact ⟨(okS_iff h g).1 a,b⟩
noncomputable def firstS (ps:List Int) (ls:List Ln) (l:List Of) (tk pt want most:Int):List Of→Option (Int × Int)
 | []=>none
 | o::os=>if 0<mayS ps ls l tk pt want most o.se then some (o.se,mayS ps ls l tk pt want most o.se) else firstS ps ls l tk pt want most os
theorem firstS_some {ps:List Int} {ls:List Ln} {l:List Of} {tk pt want most:Int}:∀ {os:List Of} {s k:Int},firstS ps ls l tk pt want most os=some (s,k)→0<k∧k=mayS ps ls l tk pt want most s∧∃ o ∈ os,o.se=s
 | [],s,k,h=>by simp [firstS] at h
 | o::os,s,k,h=>by
  unfold firstS at h
  split at h
  ·rename_i hp
   simp only [Option.some.injEq,Prod.mk.injEq] at h
   obtain ⟨rfl,rfl⟩:=h
   exact ⟨hp,rfl,o,List.mem_cons_self,rfl⟩
  ·obtain ⟨h1,h2,o',h3,h4⟩:=firstS_some h
   exact ⟨h1,h2,o',List.mem_cons_of_mem _ h3,h4⟩
structure Fl where
 se:Int
 got:Int
 gi:Int
structure SwS where
 ls:List Ln
 l:List Of
 fs:List Fl
 n:Int
noncomputable def nextS (ps:List Int) (tk pt:Int) (σ:SwS) (s k:Int):SwS:=match findO σ.l s with
 | none=>σ
 | some o=>⟨filledS ps σ.ls o tk pt k (upN (k * o.nu) o.de),takeL σ.l s k,σ.fs++[⟨s,k,upN (k * o.nu) o.de⟩],σ.n - k⟩
noncomputable def swapN (ps:List Int) (tk pt get give:Int):Nat→SwS→Int × SwS
 | fuel,σ=>if σ.n≤0 then (0,σ) else match firstS ps σ.ls σ.l tk pt σ.n 1099511627776 (bestO σ.l get give) with
  | none=>(11,σ)
  | some (s,k)=>if σ.fs.length=64 then (13,σ) else match fuel with
   | 0=>(13,σ)
   | f + 1=>swapN ps tk pt get give f (nextS ps tk pt σ s k)
theorem swapN_done {ps:List Int} {tk pt get give:Int} {fuel:Nat} {σ:SwS} (h:σ.n≤0):swapN ps tk pt get give fuel σ=(0,σ):=by
 cases fuel <;> (unfold swapN; rw [if_pos h])
theorem swapN_none {ps:List Int} {tk pt get give:Int} {fuel:Nat} {σ:SwS} (h:¬ σ.n≤0) (hf:firstS ps σ.ls σ.l tk pt σ.n 1099511627776 (bestO σ.l get give)=none):swapN ps tk pt get give fuel σ=(11,σ):=by
 cases fuel <;> (unfold swapN; rw [if_neg h,hf])
theorem swapN_full {ps:List Int} {tk pt get give:Int} {fuel:Nat} {σ:SwS} {s k:Int} (h:¬ σ.n≤0) (hf:firstS ps σ.ls σ.l tk pt σ.n 1099511627776 (bestO σ.l get give)=some (s,k)) (hl:σ.fs.length=64):swapN ps tk pt get give fuel σ=(13,σ):=by
 cases fuel <;> (unfold swapN; rw [if_neg h,hf]; simp only []; rw [if_pos hl])
theorem swapN_next {ps:List Int} {tk pt get give:Int} {fuel:Nat} {σ:SwS} {s k:Int} (h:¬ σ.n≤0) (hf:firstS ps σ.ls σ.l tk pt σ.n 1099511627776 (bestO σ.l get give)=some (s,k)) (hl:¬ σ.fs.length=64):swapN ps tk pt get give (fuel + 1) σ=swapN ps tk pt get give fuel (nextS ps tk pt σ s k):=by
 conv=>lhs; unfold swapN
 rw [if_neg h,hf]
 simp only []
 rw [if_neg hl]
def swMay (fr pt get give n most:Int):Prop:=(1≤fr∧fr≤16)∧(1≤pt∧pt≤16)∧(1≤get∧get≤8)∧(1≤give∧give≤8)∧get≠give∧(1≤n∧n≤1099511627776)∧1≤most∧most≤1099511627776
instance (fr pt get give n most:Int):Decidable (swMay fr pt get give n most):=by unfold swMay; infer_instance
noncomputable def swapF (ps:List Int) (ls:List Ln) (l:List Of) (fr pt get give n most:Int):Int × SwS :=
 if ¬ swMay fr pt get give n most then (1,⟨ls,l,[],n⟩) else if fr ∉ ps∨pt ∉ ps then (7,⟨ls,l,[],n⟩) else
  if (swapN ps fr pt get give 64 ⟨ls,l,[],n⟩).1≠0 then swapN ps fr pt get give 64 ⟨ls,l,[],n⟩ else
  if most<((swapN ps fr pt get give 64 ⟨ls,l,[],n⟩).2.fs.map Fl.gi).sum then (12,(swapN ps fr pt get give 64 ⟨ls,l,[],n⟩).2) else swapN ps fr pt get give 64 ⟨ls,l,[],n⟩
end Go.Proofs.YtojbmnbphdcjfaaGreat
namespace Go.Proofs.YtojbmnbphdcjfaaGreat
open Go.RowKit
theorem wp_append_pair {P:Program} {w w':World} {o:Oper} {a:Act} {K:Act→World→Prop} {Q:Exit→Act→World→Prop} (y x:Operand) (t:TypeId) {u v v':Value}
  (ho:o.op=.call { callee:=.builtin .append,args:=#[y,x],argTypes:=#[t,t] }) (hy:a.eval y=u) (hx:a.eval x=v)
  (hr:(Builtin.append_ #[t,t] o.type #[u,v]).run P w=.ok v' w') (h:K (a.put o.dst v') w'):o.wp P a w K Q:=by
 unfold Oper.wp execOp
 simp only [ho,resolve,invoke,builtin,Sem.run_bind,Sem.run_pure,Result.andThen_ok,List.map_toArray,List.map_cons,List.map_nil,hy,hx,hr]
 exact h
def placeE (l:List Of) (x:Of):Int:=if ¬ x.may then 1 else if l.length=32∨x.se=18446744073709551615 then 9 else 0
def placeS (l:List Of) (x:Of):Int:=if placeE l x=0 then x.se else 0
def placeL (l:List Of) (x:Of):List Of:=if placeE l x=0 then l++[x] else l
def placeN (l:List Of) (x:Of):Int:=if placeE l x=0 then x.se + 1 else x.se
end Go.Proofs.YtojbmnbphdcjfaaGreat
namespace Go.Proofs.YtojbmnbphdcjfaaGreat
open Go.RowKit
theorem step_append_off {P:Program} {ops:Array Oper} {o:Oper} {a:Act} {w:World} {K:Act→World→Prop} {Q:Exit→Act→World→Prop} {E:Prop}
  (hg:o.guard=none) (s x:Operand) (t:TypeId) (hop:o.op=Op.call { callee:=Callee.builtin Builtin.append,args:=#[s,x],argTypes:=#[t,t] })
  (base:Nat) (e:TypeId) {z:Value} (ht:P.underlying t=some (.slice e)) (hz0:z.cells.size=7) (hi:(P.info? e).map (fun i=>(i.zero,i.size,i.bytes))=some (some z,7,40)) (v:Value) (l:List Of) (hs:a.eval s=v) (hown:w.ownsRow base e 7 v l.length (ofCells l))
  (g c:Nat) (y:Of) (hx:a.eval x=.slice (some ⟨g,0,none⟩) 1 c) (hy:Blk w g #[.int .u64 y.se,.int .u8 y.ow,.int .u8 y.sl,.int .u8 y.bu,.int .i64 y.lf,.int .i64 y.nu,.int .i64 y.de] e) (hlen:l.length≤100000) (hbase:base≤w.heap.size)
  (hK:∀ v' w',w'.ownsRow base e 7 v' (l++[y]).length (ofCells (l++[y]))→w.grownBy w' v.ownBlock→(v'.ownBlock=v.ownBlock∨v'.ownBlock=some w.heap.size)→K (a.put o.dst v') w') :
  if Region.wanted o (yielded ops a.tmps)=true then Oper.wp P o a w K Q else E:=by
 have hw:Region.wanted o (yielded ops a.tmps)=true:=by simp [Region.wanted,hg]
 rw [if_pos hw]
 obtain ⟨i0,hi1,hi2,hi3,hi4⟩:=info_parts hi
 obtain ⟨v',w',hr,h2,h3,_,h5⟩:=run_append_own_at (P:=P) w base t o.type e i0 z 7 40 ht hi1 hi2 hi3 hi4 hz0 (by decide) v l.length (ofCells l) hown ⟨g,0,none⟩ 1 c y.vals rfl (fun j u hj=>by
   have:=hy.cell j
   rw [Go.WideShapes.add_plain,Nat.zero_add,this]
   match j,hj with
   | 0,hj=>simpa [Of.vals] using hj
   | 1,hj=>simpa [Of.vals] using hj
   | 2,hj=>simpa [Of.vals] using hj
   | 3,hj=>simpa [Of.vals] using hj
   | 4,hj=>simpa [Of.vals] using hj
   | 5,hj=>simpa [Of.vals] using hj
   | 6,hj=>simpa [Of.vals] using hj
   | j + 7,hj=>simp [Of.vals] at hj) (by intro u hu; simp [Of.vals] at hu; rcases hu with rfl | rfl | rfl | rfl | rfl | rfl | rfl <;> rfl) (by unfold maxLen; omega) (by omega) hbase
 rw [← ofCells_one,← ofCells_append] at h2
 refine wp_append_pair s x t hop hs hx hr ?_
 exact hK v' w' (by rw [List.length_append]; exact h2) h3 h5
theorem BInv.place {l:List Of} {x:Of} (h:BInv l x.se):BInv (placeL l x) (placeN l x):=by
 unfold placeL placeN
 by_cases e:placeE l x=0
 ·rw [if_pos e,if_pos e]
  unfold placeE at e
  split at e
  ·simp at e
  ·rename_i hm
   have hm:=Decidable.not_not.1 hm
   split at e
   ·simp at e
   ·rename_i h2
    have:=h.len; have:=h.n1; have:=h.n2
    have hl:l.length≠32:=fun k=>h2 (.inl k)
    have hs:x.se≠18446744073709551615:=fun k=>h2 (.inr k)
    refine ⟨fun y hy=>?_,?_,fun y hy=>?_,by rw [List.length_append,List.length_singleton]; omega,by omega,by omega⟩
    ·rcases List.mem_append.1 hy with hy | hy
     ·exact h.may y hy
     ·rw [List.mem_singleton] at hy; rw [hy]; exact hm
    ·rw [List.pairwise_append]
     refine ⟨h.rise,by simp,fun a ha b hb=>?_⟩
     rw [List.mem_singleton] at hb
     rw [hb]
     exact (h.bd a ha).2
    ·rcases List.mem_append.1 hy with hy | hy
     ·have:=h.bd y hy; omega
     ·rw [List.mem_singleton] at hy; rw [hy]; omega
 ·rw [if_neg e,if_neg e]; exact h
theorem PB.setN {w:World} {base g:Nat} {l:List Of} {N:Int} {vl:Value} (h:PB w base g l N vl) (M:Int):PB (w.setCell ⟨g,1,none⟩ (.int .u64 M)) base g l M vl:=by
 have k2:Keep (·=g) w (w.setCell ⟨g,1,none⟩ (.int .u64 M)):=Keep.setCell (S:=(·=g)) (Keep.refl _ _) (p:=⟨g,1,none⟩) (.inl rfl) _
 exact ⟨by simpa using h.blk.set 1 (.int .u64 M),h.ge,owns_keep h.row k2 (fun b hb e=>h.apart b hb e)⟩
theorem appended {W w':World} {base g cap:Nat} {ao:Option Addr} {l:List Of} {x:Of} {N:Int} {c:Obj} {v':Value} (h:PB W base g l N (.slice ao l.length cap)) (ho:w'.ownsRow base 126 7 v' (l++[x]).length (ofCells (l++[x])))
  (hgr:(W.drew.alloc c).grownBy w' (Value.ownBlock (.slice ao l.length cap))) (hat:v'.ownBlock=Value.ownBlock (.slice ao l.length cap)∨v'.ownBlock=some (W.drew.alloc c).heap.size) :
  Blk w' g #[.slice ao l.length cap,.int .u64 N] 64∧(PB (w'.setCell ⟨g,0,none⟩ v') base g (l++[x]) N v'∧(Keep (Foot g (.slice ao l.length cap)) W (w'.setCell ⟨g,0,none⟩ v')∧Moved W (.slice ao l.length cap) v') ∧
   ∀ {a:Nat} {cs:Array Value} {t:TypeId},Blk W a cs t→(¬ Foot g (.slice ao l.length cap) a)→Blk (w'.setCell ⟨g,0,none⟩ v') a cs t):=by
 have hB:Blk w' g #[.slice ao l.length cap,.int .u64 N] 64:=Blk.grown ((h.blk.drew).alloc _) hgr (fun e=>(h.apart _ e) rfl)
 have k2:Keep (·=g) w' (w'.setCell ⟨g,0,none⟩ v'):=Keep.setCell (S:=(·=g)) (Keep.refl _ _) (p:=⟨g,0,none⟩) (.inl rfl) _
 have k1:Keep (Foot g (.slice ao l.length cap)) W w':=((Keep.refl _ W).drew.alloc _).grown hgr (fun k hk=>.inl (.inr hk))
 have hgl:=h.blk.lt
 have k3:=k1.trans (k2.mono fun k _ hk=>.inl hk)
 refine ⟨hB,⟨by simpa using hB.set 0 v',h.ge,owns_keep ho k2 ?_⟩,⟨k3,?_⟩,fun ha hf=>ha.keep k3 hf⟩
 ·intro b hb e
  rcases hat with q | q
  ·rw [hb] at q; exact h.apart b q.symm e
  ·rw [hb] at q; cases q; rw [← e] at hgl; simp at hgl; omega
 ·intro b hb
  rcases hat with q | q
  ·exact .inl (by rw [← q]; exact hb)
  ·rw [hb] at q; cases q; exact .inr (by simp)
set_option maxHeartbeats 4000000 in
set_option maxRecDepth 100000 in
theorem pplace_r1 {W:World} {R:Nat} {x:Of} {pv:Value} (HN:Hid (∀ w',Below W.heap.size W w'→Calls Tryz.prog 72 #[pv] w' fun e w''=>e=.returned (.int .u64 x.se)∧w'=w'')) (KR:Hid (Blk W R #[.int .i64 x.nu,.int .i64 x.de] 74)) {Q:Exit→Act→World→Prop} {c5 c6 c7 c8 c9 c10 c12 c13 c14 c15 c16 c17 c18 c19 c20 c21 c22 c23 c24 c25 c26 c27 c28 c29 c30 c31 c32 c33 c34 c35 c36 c37 c38 c39 c40 c41 c42 c43 c44 c45 c46 c47 c48 c49 c50 c51 c52 c53 c54 c55 c56 c57 c58 c59 c60 c61:Value}
  (hq:∀ a w6,W.heap.size≤a→Blk w6 a #[.int .u64 x.se,.int .u8 x.ow,.int .u8 x.sl,.int .u8 x.bu,.int .i64 x.lf,.int .i64 x.nu,.int .i64 x.de] 126→Below W.heap.size W w6→Q .normal ⟨#[pv,(.int .u8 x.ow),(.int .u8 x.sl),(.int .u8 x.bu),(.int .i64 x.lf),c5,c6,c7,c8,c9,c10,(.pointer (some ⟨R,0,none⟩)),c12,c13,(.pointer (some ⟨a,0,none⟩)),pv,(.int .u64 x.se),(.int .u8 x.ow),(.int .u8 x.sl),(.int .u8 x.bu),(.int .i64 x.lf),(.agg #[.int .i64 x.nu,.int .i64 x.de]),(.agg #[.int .u64 x.se,.int .u8 x.ow,.int .u8 x.sl,.int .u8 x.bu,.int .i64 x.lf,.int .i64 x.nu,.int .i64 x.de]),c23,c24,c25,c26,c27,c28,c29,c30,c31,c32,c33,c34,c35,c36,c37,c38,c39,c40,c41,c42,c43,c44,c45,c46,c47,c48,c49,c50,c51,c52,c53,c54,c55,c56,c57,c58,c59,c60,c61],[]⟩ w6) :
  Code.wp Tryz.prog (((Tryz.f30.body).bind (regionNo 1)).getD .skip) Q ⟨#[pv,(.int .u8 x.ow),(.int .u8 x.sl),(.int .u8 x.bu),(.int .i64 x.lf),c5,c6,c7,c8,c9,c10,(.pointer (some ⟨R,0,none⟩)),c12,c13,c14,c15,c16,c17,c18,c19,c20,c21,c22,c23,c24,c25,c26,c27,c28,c29,c30,c31,c32,c33,c34,c35,c36,c37,c38,c39,c40,c41,c42,c43,c44,c45,c46,c47,c48,c49,c50,c51,c52,c53,c54,c55,c56,c57,c58,c59,c60,c61],[]⟩ W:=by
 conv=>arg 2; whnf
 have HQ:=Lib.hid hq
 clear hq
 refine region_ghost (by kernel_rfl) (fun g:Nat→Nat=>[pv,(.int .u64 x.se),(.int .u8 x.ow),(.int .u8 x.sl),(.int .u8 x.bu),(.int .i64 x.lf),(.agg #[.int .i64 x.nu,.int .i64 x.de]),(.agg #[.int .u64 x.se,.int .u8 x.ow,.int .u8 x.sl,.int .u8 x.bu,.int .i64 x.lf,.int .i64 x.nu,.int .i64 x.de]),(.pointer (some ⟨g 8,0,none⟩)),undef])
  (Lays W [(⟨8,9,(.cells #[.int .u64 0,.int .u8 0,.int .u8 0,.int .u8 0,.int .i64 0,.int .i64 0,.int .i64 0] 126),(.cells #[.int .u64 x.se,.int .u8 x.ow,.int .u8 x.sl,.int .u8 x.bu,.int .i64 x.lf,.int .i64 x.nu,.int .i64 x.de] 126)⟩:Spec)]) (by kernel_rfl) (fun _=>0) (Lays.start _ _ _) ?_
 intro AF hAF
 simp only [List.toList_toArray,puts,Act.put,List.getD_cons_zero,List.getD_cons_succ,List.setIfInBounds_toArray,List.set_cons_succ,List.set_cons_zero] at hAF
 have hAF2:_=AF:=funext hAF
 subst hAF2
 clear hAF
 refine ⟨?_,?_⟩
 ·simp only [List.toList_toArray,EachG]
  refine ⟨?_,?_,?_,?_,?_,?_,?_,?_,?_,?_,trivial⟩
  ·intro g D w' hD hW hC hI
   refine ⟨g,fun _ _ _=>rfl,?_⟩
   with_reducible refine OpTo.plain ?_ ?_
   exact rfl
   have hS:=hI.below
   have HS:=Lib.hid (hI.step (Below.refl _ _) (k:=0) (by rfl))
   clear hI hS hC hW hD
   go_wp2_with fail
   all_goals first | exact HS.out | exact ⟨rfl,HS.out⟩ | rfl
  ·intro g D w' hD hW hC hI
   refine ⟨g,fun _ _ _=>rfl,?_⟩
   with_reducible refine OpTo.plain ?_ ?_
   exact rfl
   have hS:=hI.below
   have HI:=Lib.hid hI
   have HC:=Lib.hid (HN.out w' hS)
   clear hI hS hC hW hD
   go_wp2_with fail
   refine HC.out.mono ?_
   rintro e w'' ⟨rfl,rfl⟩
   exact ⟨rfl,HI.out.step (Below.refl _ _) (by rfl)⟩
  ·intro g D w' hD hW hC hI
   refine ⟨g,fun _ _ _=>rfl,?_⟩
   with_reducible refine OpTo.plain ?_ ?_
   exact rfl
   have hS:=hI.below
   have HS:=Lib.hid (hI.step (Below.refl _ _) (k:=2) (by rfl))
   clear hI hS hC hW hD
   go_wp2_with fail
   all_goals first | exact HS.out | exact ⟨rfl,HS.out⟩ | rfl
  ·intro g D w' hD hW hC hI
   refine ⟨g,fun _ _ _=>rfl,?_⟩
   with_reducible refine OpTo.plain ?_ ?_
   exact rfl
   have hS:=hI.below
   have HS:=Lib.hid (hI.step (Below.refl _ _) (k:=3) (by rfl))
   clear hI hS hC hW hD
   go_wp2_with fail
   all_goals first | exact HS.out | exact ⟨rfl,HS.out⟩ | rfl
  ·intro g D w' hD hW hC hI
   refine ⟨g,fun _ _ _=>rfl,?_⟩
   with_reducible refine OpTo.plain ?_ ?_
   exact rfl
   have hS:=hI.below
   have HS:=Lib.hid (hI.step (Below.refl _ _) (k:=4) (by rfl))
   clear hI hS hC hW hD
   go_wp2_with fail
   all_goals first | exact HS.out | exact ⟨rfl,HS.out⟩ | rfl
  ·intro g D w' hD hW hC hI
   refine ⟨g,fun _ _ _=>rfl,?_⟩
   with_reducible refine OpTo.plain ?_ ?_
   exact rfl
   have hS:=hI.below
   have HS:=Lib.hid (hI.step (Below.refl _ _) (k:=5) (by rfl))
   clear hI hS hC hW hD
   go_wp2_with fail
   all_goals first | exact HS.out | exact ⟨rfl,HS.out⟩ | rfl
  ·intro g D w' hD hW hC hI
   refine ⟨g,fun _ _ _=>rfl,?_⟩
   with_reducible refine OpTo.plain ?_ ?_
   exact rfl
   have hS:=hI.below
   have hl0:=Nat.lt_of_lt_of_le KR.out.lt hS.size
   have d0_0:=(KR.out.below hS KR.out.lt).cell 0
   have d0_1:=(KR.out.below hS KR.out.lt).cell 1
   simp at d0_0 d0_1
   have HS:=Lib.hid (hI.step (Below.refl _ _) (k:=6) (by rfl))
   clear hI hS hC hW hD
   go_wp2_with fail
   all_goals first | exact HS.out | exact ⟨rfl,HS.out⟩ | rfl
  ·intro g D w' hD hW hC hI
   refine ⟨g,fun _ _ _=>rfl,?_⟩
   with_reducible refine OpTo.plain ?_ ?_
   exact rfl
   have hS:=hI.below
   have HS:=Lib.hid (hI.step (Below.refl _ _) (k:=7) (by rfl))
   clear hI hS hC hW hD
   go_wp2_with fail
   all_goals first | exact HS.out | exact ⟨rfl,HS.out⟩ | rfl
  ·intro g D w' hD hW hC hI
   have hN:D 9=false:=waits_not hC hD 12 9 (by kernel_rfl)
   refine ⟨upd g 8 w'.heap.size,vals_upd _ (fun g:Nat→Nat=>[pv,(.int .u64 x.se),(.int .u8 x.ow),(.int .u8 x.sl),(.int .u8 x.bu),(.int .i64 x.lf),(.agg #[.int .i64 x.nu,.int .i64 x.de]),(.agg #[.int .u64 x.se,.int .u8 x.ow,.int .u8 x.sl,.int .u8 x.bu,.int .i64 x.lf,.int .i64 x.nu,.int .i64 x.de]),(.pointer (some ⟨g 8,0,none⟩)),undef]) g 8 _ 12 hC hD ?_,?_⟩
   ·intro j hj
    match j,hj with
    | 0,_=>exact .inr rfl
    | 1,_=>exact .inr rfl
    | 2,_=>exact .inr rfl
    | 3,_=>exact .inr rfl
    | 4,_=>exact .inr rfl
    | 5,_=>exact .inr rfl
    | 6,_=>exact .inr rfl
    | 7,_=>exact .inr rfl
    | 8,_=>exact .inl (.inl rfl)
    | 9,_=>exact .inr rfl
    | j + 10,_=>exact .inr rfl
   with_reducible refine OpTo.plain ?_ ?_
   exact rfl
   have HS:=Lib.hid (hI.lay (⟨8,9,(.cells #[.int .u64 0,.int .u8 0,.int .u8 0,.int .u8 0,.int .i64 0,.int .i64 0,.int .i64 0] 126),(.cells #[.int .u64 x.se,.int .u8 x.ow,.int .u8 x.sl,.int .u8 x.bu,.int .i64 x.lf,.int .i64 x.nu,.int .i64 x.de] 126)⟩:Spec) (by simp) (by rfl) (.inr hN) (by rfl) (fun s' hs' _=>List.mem_singleton.1 hs') (.cells #[.int .u64 0,.int .u8 0,.int .u8 0,.int .u8 0,.int .i64 0,.int .i64 0,.int .i64 0] 126) rfl)
   clear hI hC hW hD hN
   go_wp2_with fail
   all_goals first | exact HS.out | exact ⟨rfl,HS.out⟩ | rfl
  ·intro g D w' hD hW hC hI
   have hP:D 8=true:=waited_done hC hW (d:=12) (by kernel_rfl)
   obtain ⟨hg,hk⟩:=hI.zeroed (⟨8,9,(.cells #[.int .u64 0,.int .u8 0,.int .u8 0,.int .u8 0,.int .i64 0,.int .i64 0,.int .i64 0] 126),(.cells #[.int .u64 x.se,.int .u8 x.ow,.int .u8 x.sl,.int .u8 x.bu,.int .i64 x.lf,.int .i64 x.nu,.int .i64 x.de] 126)⟩:Spec) (by simp) hP hD
   refine ⟨g,fun _ _ _=>rfl,?_⟩
   with_reducible refine OpTo.plain ?_ ?_
   exact rfl
   refine wp_store_row 126 (.tmp 14) (.tmp 22) rfl (g 8) #[.int .u64 x.se,.int .u8 x.ow,.int .u8 x.sl,.int .u8 x.bu,.int .i64 x.lf,.int .i64 x.nu,.int .i64 x.de] rfl rfl 126 _ hk (by kernel_rfl) rfl (by simp [Value.oneCell']) ⟨rfl,?_⟩
   exact hI.fill (⟨8,9,(.cells #[.int .u64 0,.int .u8 0,.int .u8 0,.int .u8 0,.int .i64 0,.int .i64 0,.int .i64 0] 126),(.cells #[.int .u64 x.se,.int .u8 x.ow,.int .u8 x.sl,.int .u8 x.bu,.int .i64 x.lf,.int .i64 x.nu,.int .i64 x.de] 126)⟩:Spec) (by simp) (by rfl) (show (9:Nat)≠8 by decide) (fun s' hs' _=>List.mem_singleton.1 hs') hP (below_keepRow _ _) (setRow_heap w' (g 8) _ _ 126 (0,0) hk)
 intro g D w6 hall hI
 obtain ⟨h1,h2⟩:=hI.full (⟨8,9,(.cells #[.int .u64 0,.int .u8 0,.int .u8 0,.int .u8 0,.int .i64 0,.int .i64 0,.int .i64 0] 126),(.cells #[.int .u64 x.se,.int .u8 x.ow,.int .u8 x.sl,.int .u8 x.bu,.int .i64 x.lf,.int .i64 x.nu,.int .i64 x.de] 126)⟩:Spec) (by simp) (hall 8 (by decide)) (hall 9 (by decide))
 exact HQ.out (g 8) w6 h1 h2 hI.below
set_option maxHeartbeats 8000000 in
set_option maxRecDepth 100000 in
theorem pplace_any {w:World} {base g:Nat} {l:List Of} {x:Of} {vl:Value} (h:PB w base g l x.se vl) (hI:BInv l x.se) (hx:x.Fits) :
  Calls Tryz.prog 30 #[.pointer (some ⟨g,0,none⟩),.int .u8 x.ow,.int .u8 x.sl,.int .u8 x.bu,.int .i64 x.lf,.agg #[.int .i64 x.nu,.int .i64 x.de]] w fun e w'=>e=.returned (.tuple #[.int .u64 (placeS l x),.int .i64 (placeE l x)])∧∃ vl',PB w' base g (placeL l x) (placeN l x) vl'∧Keep (Foot g vl) w w'∧Moved w vl vl':=by
 have bw:=(Below.refl w.heap.size w).alloc (Nat.le_refl _) (.cells #[.int .i64 x.nu,.int .i64 x.de] 74)
 have H1:=Lib.hid (h.below bw)
 have KR:=Lib.hid (Blk.new w #[.int .i64 x.nu,.int .i64 x.de] 74)
 have B1:=Lib.hid bw
 have HI:=Lib.hid hI
 have HX:=Lib.hid hx
 have HG:=Lib.hid (h.below bw).blk
 have HL:=Lib.hid (fun b (hb:Foot g vl b)=>(h.lt hb).2)
 clear bw h hI hx
 go_enter Tryz.func30,Tryz.ntmps30
 go_wp2_with fail
 generalize hWW:w.alloc (.cells #[.int .i64 x.nu,.int .i64 x.de] 74)=W at *
 clear hWW
 refine pplace_r1 (Lib.hid (fun w' k=>pnext_any (HG.out.below k HG.out.lt))) KR ?_
 intro a w2 ha hA b2
 have H2:=Lib.hid (H1.out.below b2)
 have B2:=Lib.hid (B1.out.trans (b2.mono B1.out.size))
 have HA:=Lib.hid hA
 have HAF:=Lib.hid (show ¬ Foot g vl a from fun hf=>by have:=HL.out a hf; have:=B1.out.size; omega)
 have CM:=Lib.hid (pmade_any H2.out.blk HI.out.n1)
 have CY:=Lib.hid (pmay_any x w2 HX.out)
 have kl:=hA.lt
 have a0:=hA.cell 0; have a1:=hA.cell 1; have a2:=hA.cell 2; have a3:=hA.cell 3; have a4:=hA.cell 4; have a5:=hA.cell 5; have a6:=hA.cell 6
 simp at a0 a1 a2 a3 a4 a5 a6
 have hlen:=HI.out.len
 clear ha hA b2 H1 B1 HG KR HL
 by_cases hm:¬ x.may
 ·have e1:placeE l x=1:=by unfold placeE; rw [if_pos hm]
  have E:=Lib.hid (show placeE l x=1∧placeS l x=0∧placeL l x=l∧placeN l x=x.se from ⟨e1,by unfold placeS; rw [e1]; rfl,by unfold placeL; rw [e1]; rfl,by unfold placeN; rw [e1]; rfl⟩)
  rw [decide_eq_false hm] at CY
  clear e1 hm
  go_wp2_with fail
  refine CM.out.mono ?_
  rintro e w2 ⟨rfl,rfl⟩
  go_wp2_with fail
  refine CY.out.mono ?_
  rintro e w3 ⟨rfl,b3⟩
  have H3:=Lib.hid (H2.out.below b3)
  have B3:=Lib.hid (B2.out.trans (b3.mono B2.out.size))
  clear b3 H2 B2 CM CY a0 a1 a2 a3 a4 a5 a6 kl
  go_wp2_with fail
  refine bodyPost_ret (v:=.tuple #[.int .u64 0,.int .i64 1]) (by simp [results,Tryz.results30,go_sem]) rfl ?_
  rw [E.out.1,E.out.2.1,E.out.2.2.1,E.out.2.2.2]
  exact ⟨rfl,vl,H3.out,Keep.of_below B3.out,Moved.refl _ _⟩
 have hm:=Decidable.not_not.1 hm
 rw [decide_eq_true hm] at CY
 obtain ⟨ao,cap,hvl,hc1,hc2,_⟩:=owns_open H2.out.row
 subst hvl
 unfold maxLen at hc2
 go_wp2_with fail
 refine CM.out.mono ?_
 rintro e w2 ⟨rfl,rfl⟩
 go_wp2_with fail
 refine CY.out.mono ?_
 rintro e w3 ⟨rfl,b3⟩
 have HG4:=Lib.hid (H2.out.below b3)
 have HA4:=Lib.hid (HA.out.below b3 HA.out.lt)
 have HA4b:=HAF
 have B3:=Lib.hid (B2.out.trans (b3.mono B2.out.size))
 clear b3 H2 B2 CM CY a0 a1 a2 a3 a4 a5 a6 kl HA HAF
 have hgl:=HG4.out.blk.lt
 have d0:=HG4.out.blk.cell 0
 have a0:=HA4.out.cell 0
 have hal:=HA4.out.lt
 simp at d0 a0
 by_cases hf:l.length=32∨x.se=18446744073709551615
 ·have e1:placeE l x=9:=by unfold placeE; rw [if_neg (by simpa using hm),if_pos hf]
  have E:=Lib.hid (show placeE l x=9∧placeS l x=0∧placeL l x=l∧placeN l x=x.se from ⟨e1,by unfold placeS; rw [e1]; rfl,by unfold placeL; rw [e1]; rfl,by unfold placeN; rw [e1]; rfl⟩)
  clear e1
  by_cases h32:l.length=32
  ·have q1:((l.length:Int)==32)=true:=by rw [h32]; rfl
   clear hf h32
   go_wp2_with fail
   refine bodyPost_ret (v:=.tuple #[.int .u64 0,.int .i64 9]) (by simp [results,Tryz.results30,go_sem]) rfl ?_
   rw [E.out.1,E.out.2.1,E.out.2.2.1,E.out.2.2.2]
   exact ⟨rfl,_,HG4.out,Keep.of_below B3.out,Moved.refl _ _⟩
  ·have q1:((l.length:Int)==32)=false:=by simp; omega
   have hse:x.se=18446744073709551615:=by rcases hf with h | h; exact absurd h h32; exact h
   have q2:(x.se==18446744073709551615)=true:=by simpa using hse
   have HSE:=Lib.hid hse
   clear hf h32 hse
   go_wp2_with fail
   refine bodyPost_ret (v:=.tuple #[.int .u64 0,.int .i64 9]) (by simp [results,Tryz.results30,go_sem]) rfl ?_
   rw [E.out.1,E.out.2.1,E.out.2.2.1,E.out.2.2.2]
   exact ⟨rfl,_,HG4.out,Keep.of_below B3.out,Moved.refl _ _⟩
 have e1:placeE l x=0:=by unfold placeE; rw [if_neg (by simpa using hm),if_neg hf]
 have E:=Lib.hid (show placeE l x=0∧placeS l x=x.se∧placeL l x=l++[x]∧placeN l x=x.se + 1 from ⟨e1,by unfold placeS; rw [if_pos e1],by unfold placeL; rw [if_pos e1],by unfold placeN; rw [if_pos e1]⟩)
 have q1:((l.length:Int)==32)=false:=by simp; omega
 have q2:(x.se==18446744073709551615)=false:=by simp; omega
 have hn:=HI.out.n2
 have hn1:=HI.out.n1
 have hse0:0≤x.se + 1:=by omega
 have hse1:x.se + 1≤18446744073709551615:=by omega
 clear e1 hf
 go_wp2_with fail
 clear d0 a0 hgl hal
 generalize w3=W at *
 have hgl:=HG4.out.blk.lt
 have d0:=HG4.out.blk.cell 0
 simp at d0
 have hal:=HA4.out.lt
 have a0:=HA4.out.cell 0; have a1:=HA4.out.cell 1; have a2:=HA4.out.cell 2; have a3:=HA4.out.cell 3; have a4:=HA4.out.cell 4; have a5:=HA4.out.cell 5; have a6:=HA4.out.cell 6
 simp at a0 a1 a2 a3 a4 a5 a6
 have hbs:=Nat.le_trans HG4.out.ge (Nat.le_of_lt hgl)
 go_region_law (refine step_append_off rfl (.tmp 47) (.tmp 49) 61 rfl base 126 Tryz.underlying61 rfl info_poff (.slice ao l.length cap) l rfl (owns_below HG4.out.row ((Below.refl _ _).drew.alloc (Nat.le_refl _) _)) W.heap.size 1 x rfl (Blk.new W.drew _ _) (by omega) (by simp; omega) ?_; intro v' w' ho hgr hat; have HAP:=Lib.hid (appended HG4.out ho hgr hat); have hB:=HAP.out.1; have d1:=hB.cell 0; have f1:=hB.frozen 0; have l1:=hB.lt; simp at d1; obtain ⟨ao',cap',hv',_⟩:=owns_open ho; obtain ⟨ln,hln⟩:∃ ln,(l++[x]).length=ln:=⟨_,rfl⟩; rw [hln] at hv'; subst hv'; clear hln; clear ho hgr hat hB d0)
 all_goals
  have HE:=Lib.hid HAP.out.2
  clear HAP d1 f1 l1
  have e0:=HE.out.1.blk.cell 1
  have e1:=HE.out.1.blk.lt
  have e2:=HE.out.1.blk.frozen 1
  have e3:=HE.out.2.2 HA4.out HA4b.out
  have e4:=e3.cell 0
  have e5:=e3.lt
  simp at e0 e4
  clear e3
  go_wp2
  refine bodyPost_ret (v:=.tuple #[.int .u64 x.se,.int .i64 0]) (by simp [results,Tryz.results30,go_sem]) rfl ?_
  have k3:Keep (·=g) (w'.setCell ⟨g,0,none⟩ (.slice ao' ln cap')) ((w'.setCell ⟨g,0,none⟩ (.slice ao' ln cap')).setCell ⟨g,1,none⟩ (.int .u64 (x.se + 1))):=Keep.setCell (S:=(·=g)) (Keep.refl _ _) (p:=⟨g,1,none⟩) (.inl rfl) _
  rw [E.out.1,E.out.2.1,E.out.2.2.1,E.out.2.2.2]
  exact ⟨rfl,_,HE.out.1.setN _,(Keep.of_below B3.out).trans (HE.out.2.1.1.trans (k3.mono fun k _ hk=>.inl hk)),HE.out.2.1.2.of_le B3.out.size⟩
end Go.Proofs.YtojbmnbphdcjfaaGreat
namespace Go.Proofs.YtojbmnbphdcjfaaGreat
open Go.RowKit
def wayX10 (s t:Int) (σ:RS):Nat→RS
 | 0=>σ
 | k + 1=>wayR s t (wayX10 s t σ k)
theorem route10_by {f0:Int→Int→Int} {B s t want:Int} (h:GInv f0 B):∀ k,(∀ j,j<k→¬ doneR s t (wayX10 s t ⟨f0,want,[]⟩ j))→RInv f0 B s t want k (wayX10 s t ⟨f0,want,[]⟩ k)
 | 0,_=>RInv.start h s t want
 | k + 1,hj=>(route10_by h k (fun j hk=>hj j (by omega))).step (hj k (by omega))
theorem route10_is {f0:Int→Int→Int} {B s t want:Int} (h:GInv f0 B) (k:Nat) (hj:∀ j,j<k→¬ doneR s t (wayX10 s t ⟨f0,want,[]⟩ j)) (hd:doneR s t (wayX10 s t ⟨f0,want,[]⟩ k)):IsRoute f0 B s t want (wayX10 s t ⟨f0,want,[]⟩ k) :=
 ⟨k,route10_by h k hj,hd⟩
def p10:List Int:=[1,2,3]
def l10:List Ln:=[⟨3,2,1,9,0⟩,⟨2,1,2,7,0⟩]
def o10:List Of:=[⟨1,2,1,2,5,3,2⟩]
theorem lv10_s:(∀ j,j<1→¬ doneR 2 3 (wayX10 2 3 ⟨roomF p10 l10 1,mostW,[]⟩ j))∧doneR 2 3 (wayX10 2 3 ⟨roomF p10 l10 1,mostW,[]⟩ 1)∧mostW - (wayX10 2 3 ⟨roomF p10 l10 1,mostW,[]⟩ 1).left=9:=by
 unfold doneR
 decide +kernel
theorem lv10_b:(∀ j,j<1→¬ doneR 1 2 (wayX10 1 2 ⟨roomF p10 l10 2,mostW,[]⟩ j))∧doneR 1 2 (wayX10 1 2 ⟨roomF p10 l10 2,mostW,[]⟩ 1)∧mostW - (wayX10 1 2 ⟨roomF p10 l10 2,mostW,[]⟩ 1).left=7:=by
 unfold doneR
 decide +kernel
end Go.Proofs.YtojbmnbphdcjfaaGreat
namespace Go.Proofs.YtojbmnbphdcjfaaGreat
theorem mostS_by {ps:List Int} {ls:List Ln} (h:LInv ps ls) {c a b v:Int} (k:Nat) (hc:(∀ j,j<k→¬ doneR a b (wayX10 a b ⟨roomF ps ls c,mostW,[]⟩ j))∧doneR a b (wayX10 a b ⟨roomF ps ls c,mostW,[]⟩ k)∧mostW - (wayX10 a b ⟨roomF ps ls c,mostW,[]⟩ k).left=v):mostS ps ls c a b=v:=by
 unfold mostS
 rw [(routeS_is (roomF_inv h c) a b mostW).eq (route10_is (roomF_inv h c) k hc.1 hc.2.1)]
 exact hc.2.2
theorem paidS_by {ps:List Int} {ls ls':List Ln} (h:LInv ps ls) {c a b n:Int} (k:Nat) (hc:(∀ j,j<k→¬ doneR a b (wayX10 a b ⟨roomF ps ls c,n,[]⟩ j))∧doneR a b (wayX10 a b ⟨roomF ps ls c,n,[]⟩ k)∧payL ps ls a b c n (wayX10 a b ⟨roomF ps ls c,n,[]⟩ k)=ls'):paidS ps ls a b c n=ls':=by
 unfold paidS
 rw [(routeS_is (roomF_inv h c) a b n).eq (route10_is (roomF_inv h c) k hc.1 hc.2.1)]
 exact hc.2.2
def lzA:List Ln:=[⟨3,2,1,9,5⟩,⟨2,1,2,7,0⟩]
def lz1:List Ln:=[⟨3,2,1,9,5⟩,⟨2,1,2,7,5⟩]
def lzB:List Ln:=[⟨3,2,1,9,6⟩,⟨2,1,2,7,5⟩]
def lz2:List Ln:=[⟨3,2,1,9,6⟩,⟨2,1,2,7,7⟩]
def ov0:List Of:=[⟨1,2,1,2,5,3,2⟩,⟨2,2,1,2,5,1,1⟩]
def ov1:List Of:=[⟨1,2,1,2,5,3,2⟩]
def ov2:List Of:=[⟨1,2,1,2,4,3,2⟩]
set_option maxRecDepth 100000 in
theorem lw_s0 (h:LInv p10 l10):mostS p10 l10 1 2 3=9∧mostS p10 l10 2 1 2=7:=⟨mostS_by h 1 lv10_s,mostS_by h 1 lv10_b⟩
theorem lw_p0 (h:LInv p10 l10):paidS p10 l10 2 3 1 5=lzA:=paidS_by h 1 (by unfold doneR; decide +kernel)
theorem lw_pA (h:LInv p10 lzA):paidS p10 lzA 1 2 2 5=lz1:=paidS_by h 1 (by unfold doneR; decide +kernel)
theorem lw_s1 (h:LInv p10 lz1):mostS p10 lz1 1 2 3=4∧mostS p10 lz1 2 1 2=2:=⟨mostS_by h 1 (by unfold doneR; decide +kernel),mostS_by h 1 (by unfold doneR; decide +kernel)⟩
theorem lw_p1 (h:LInv p10 lz1):paidS p10 lz1 2 3 1 1=lzB:=paidS_by h 1 (by unfold doneR; decide +kernel)
theorem lw_pB (h:LInv p10 lzB):paidS p10 lzB 1 2 2 2=lz2:=paidS_by h 1 (by unfold doneR; decide +kernel)
theorem lw_s2 (h:LInv p10 lz2):mostS p10 lz2 1 2 3=3∧mostS p10 lz2 2 1 2=0:=⟨mostS_by h 1 (by unfold doneR; decide +kernel),mostS_by h 0 (by unfold doneR; decide +kernel)⟩
theorem lw_f0 (h:LInv p10 l10):filledS p10 l10 ⟨2,2,1,2,5,1,1⟩ 1 3 5 5=lz1∧LInv p10 lz1:=by
 have e0:=lw_p0 h
 have hA:LInv p10 lzA:=by rw [← e0]; exact paidS_inv h _ _ _ _
 have e1:=lw_pA hA
 refine ⟨?_,by rw [← e1]; exact paidS_inv hA _ _ _ _⟩
 unfold filledS
 rw [if_neg (by decide)]
 show paidS p10 (paidS p10 l10 2 3 1 5) 1 2 2 5=lz1
 rw [e0,e1]
theorem lw_f1 (h:LInv p10 lz1):filledS p10 lz1 ⟨1,2,1,2,5,3,2⟩ 1 3 1 2=lz2∧LInv p10 lz2:=by
 have e0:=lw_p1 h
 have hB:LInv p10 lzB:=by rw [← e0]; exact paidS_inv h _ _ _ _
 have e1:=lw_pB hB
 refine ⟨?_,by rw [← e1]; exact paidS_inv hB _ _ _ _⟩
 unfold filledS
 rw [if_neg (by decide)]
 show paidS p10 (paidS p10 lz1 2 3 1 1) 1 2 2 2=lz2
 rw [e0,e1]
def fv1:Fl:=⟨2,5,5⟩
def fv2:Fl:=⟨1,1,2⟩
theorem lw_step0 (h:LInv p10 l10) {n:Int} (hn:n=6∨n=7):swapN p10 1 3 1 2 64 ⟨l10,ov0,[],n⟩=swapN p10 1 3 1 2 63 ⟨lz1,ov1,[fv1],n - 5⟩:=by
 have hm:mayS p10 l10 ov0 1 3 n 1099511627776 2=5:=by
  show mayO ⟨2,2,1,2,5,1,1⟩ p10 1 3 n 1099511627776 (mostS p10 l10 1 2 3) (mostS p10 l10 2 1 2)=5
  rw [(lw_s0 h).1,(lw_s0 h).2]
  rcases hn with rfl | rfl <;> decide +kernel
 have hf:firstS p10 l10 ov0 1 3 n 1099511627776 (bestO ov0 1 2)=some (2,5):=by
  rw [show bestO ov0 1 2=[⟨2,2,1,2,5,1,1⟩,⟨1,2,1,2,5,3,2⟩] by decide +kernel]
  unfold firstS
  rw [hm]
  rfl
 rw [swapN_next (s:=2) (k:=5) (by show ¬ n≤0; omega) hf (by simp)]
 have e:nextS p10 1 3 ⟨l10,ov0,[],n⟩ 2 5=⟨lz1,ov1,[fv1],n - 5⟩:=by
  unfold nextS
  rw [show findO ov0 2=some ⟨2,2,1,2,5,1,1⟩ by decide +kernel]
  simp only []
  rw [show upN (5 * 1) 1=5 by decide +kernel,(lw_f0 h).1,show takeL ov0 2 5=ov1 by decide +kernel]
  rfl
 rw [e]
theorem lw_step1 (h:LInv p10 lz1) {n:Int} (hn:n=1∨n=2):swapN p10 1 3 1 2 63 ⟨lz1,ov1,[fv1],n⟩=swapN p10 1 3 1 2 62 ⟨lz2,ov2,[fv1,fv2],n - 1⟩:=by
 have hm:mayS p10 lz1 ov1 1 3 n 1099511627776 1=1:=by
  show mayO ⟨1,2,1,2,5,3,2⟩ p10 1 3 n 1099511627776 (mostS p10 lz1 1 2 3) (mostS p10 lz1 2 1 2)=1
  rw [(lw_s1 h).1,(lw_s1 h).2]
  rcases hn with rfl | rfl <;> decide +kernel
 have hf:firstS p10 lz1 ov1 1 3 n 1099511627776 (bestO ov1 1 2)=some (1,1):=by
  rw [show bestO ov1 1 2=[⟨1,2,1,2,5,3,2⟩] by decide +kernel]
  unfold firstS
  rw [hm]
  rfl
 rw [swapN_next (s:=1) (k:=1) (by show ¬ n≤0; omega) hf (by simp)]
 have e:nextS p10 1 3 ⟨lz1,ov1,[fv1],n⟩ 1 1=⟨lz2,ov2,[fv1,fv2],n - 1⟩:=by
  unfold nextS
  rw [show findO ov1 1=some ⟨1,2,1,2,5,3,2⟩ by decide +kernel]
  simp only []
  rw [show upN (1 * 3) 2=2 by decide +kernel,(lw_f1 h).1,show takeL ov1 1 1=ov2 by decide +kernel]
  rfl
 rw [e]
theorem lw_none (h:LInv p10 lz2):swapN p10 1 3 1 2 62 ⟨lz2,ov2,[fv1,fv2],1⟩=(11,⟨lz2,ov2,[fv1,fv2],1⟩):=by
 refine swapN_none (by decide) ?_
 have hm:mayS p10 lz2 ov2 1 3 1 1099511627776 1=0:=by
  show mayO ⟨1,2,1,2,4,3,2⟩ p10 1 3 1 1099511627776 (mostS p10 lz2 1 2 3) (mostS p10 lz2 2 1 2)=0
  rw [(lw_s2 h).1,(lw_s2 h).2]
  decide +kernel
 show firstS p10 lz2 ov2 1 3 1 1099511627776 (bestO ov2 1 2)=none
 rw [show bestO ov2 1 2=[⟨1,2,1,2,4,3,2⟩] by decide +kernel]
 unfold firstS
 rw [hm]
 rfl
theorem lw_n6 (h:LInv p10 l10):swapN p10 1 3 1 2 64 ⟨l10,ov0,[],6⟩=(0,⟨lz2,ov2,[fv1,fv2],0⟩):=by
 have h1:=(lw_f0 h).2
 rw [lw_step0 h (.inl rfl),show (6:Int) - 5=1 by decide,lw_step1 h1 (.inl rfl),show (1:Int) - 1=0 by decide,swapN_done (by decide)]
theorem lw_n7 (h:LInv p10 l10):swapN p10 1 3 1 2 64 ⟨l10,ov0,[],7⟩=(11,⟨lz2,ov2,[fv1,fv2],1⟩):=by
 have h1:=(lw_f0 h).2
 have h2:=(lw_f1 h1).2
 rw [lw_step0 h (.inr rfl),show (7:Int) - 5=2 by decide,lw_step1 h1 (.inr rfl),show (2:Int) - 1=1 by decide,lw_none h2]
theorem lw_sw1 (h:LInv p10 l10):swapF p10 l10 ov0 1 3 1 2 6 7=(0,⟨lz2,ov2,[fv1,fv2],0⟩):=by
 unfold swapF
 rw [if_neg (fun q=>q (by unfold swMay; decide)),if_neg (by decide),lw_n6 h]
 rfl
theorem lw_sw2 (h:LInv p10 l10):(swapF p10 l10 ov0 1 3 1 2 6 6).1=12:=by
 unfold swapF
 rw [if_neg (fun q=>q (by unfold swMay; decide)),if_neg (by decide),lw_n6 h]
 rfl
theorem lw_sw3 (h:LInv p10 l10):(swapF p10 l10 ov0 1 3 1 2 7 99).1=11:=by
 unfold swapF
 rw [if_neg (fun q=>q (by unfold swMay; decide)),if_neg (by decide),lw_n7 h]
 rfl
theorem lw_sw4:(swapF p10 l10 ov0 1 3 1 2 0 9).1=1:=by
 unfold swapF
 rw [if_pos (by unfold swMay; decide)]
end Go.Proofs.YtojbmnbphdcjfaaGreat
namespace Go.Proofs.YtojbmnbphdcjfaaGreat
open Go.RowKit
theorem pmayS_any (HMy:FMayProg) {w:World} {base G M gb:Nat} {ps:List Int} {ls:List Ln} {l:List Of} {N:Int} {vb:Value} (hL:LedM w G M ps ls) (hI:LInv ps ls) (hP:PB w base gb l N vb) (hJ:BInv l N)
  (s tk pt want most:Int) (hs:0≤s∧s≤18446744073709551615) (ht:In8 tk) (hto:In8 pt) (hw:In64 want) (hmo:In64 most) :
  Calls Tryz.prog 65 #[.agg #[.pointer (some ⟨G,0,none⟩),.pointer (some ⟨gb,0,none⟩)],.int .u64 s,.int .u8 tk,.int .u8 pt,.int .i64 want,.int .i64 most] w fun e w'=>e=.returned (.int .i64 (mayS ps ls l tk pt want most s))∧Below w.heap.size w w':=by
 obtain ⟨m1,m2,g,_,_⟩:=goes_some hI l s tk pt
 rw [← mayS_eq hI g]
 exact HMy hL hI hP hJ s tk pt want most m1 m2 hs ht hto hw hmo g
def PDoS (w:World) (base G M gb:Nat) (ps:List Int) (ls:List Ln) (l:List Of) (N:Int) (vb:Value) (s tk pt n:Int) (e:Ending) (w':World):Prop :=
 (¬ okS ps ls l tk pt n s∧e=.returned (.tuple #[noFill,.int .i64 1])∧Below w.heap.size w w') ∨
 (okS ps ls l tk pt n s∧∃ o x vb',findO l s=some o∧x=upN (n * o.nu) o.de∧e=.returned (.tuple #[.agg #[.int .u64 s,.int .u8 tk,.int .u8 pt,.int .i64 n,.int .i64 x],.int .i64 0]) ∧
  LedM w' G M ps (filledS ps ls o tk pt n x)∧PB w' base gb (takeL l s n) N vb'∧Keep (fun k=>k=G∨k=M∨Foot gb vb k) w w'∧Moved w vb vb')
theorem pdoS_any (HD:FDoProg) {w:World} {base G M gb:Nat} {ps:List Int} {ls:List Ln} {l:List Of} {N:Int} {vb:Value} (hL:LedM w G M ps ls) (hI:LInv ps ls) (hP:PB w base gb l N vb) (hJ:BInv l N)
  (s tk pt n:Int) (hs:0≤s∧s≤18446744073709551615) (ht:In8 tk) (hto:In8 pt) (hn:In64 n) :
  Calls Tryz.prog 67 #[.agg #[.pointer (some ⟨G,0,none⟩),.pointer (some ⟨gb,0,none⟩)],.int .u64 s,.int .u8 tk,.int .u8 pt,.int .i64 n] w (PDoS w base G M gb ps ls l N vb s tk pt n):=by
 obtain ⟨m1,m2,g,_,_⟩:=goes_some hI l s tk pt
 refine (HD hL hI hP hJ s tk pt n m1 m2 hs ht hto hn g).mono ?_
 rintro e w' (⟨a,b,c⟩ | ⟨a,o,x,ls',vb',b,c,d,f,h1,h2,h3,h4⟩)
 ·exact .inl ⟨fun q=>a ((okS_iff hI g).2 q),b,c⟩
 ·rw [d.eq (filledS_is hI o tk pt n x)] at h1
  exact .inr ⟨(okS_iff hI g).1 a,o,x,vb',b,c,f,h1,h2,h3,h4⟩
end Go.Proofs.YtojbmnbphdcjfaaGreat
