/-GRg4-/
import Derived.Test.YtjaebndajhppgaaGreatDoorMnGRg1
import Derived.Test.YtjaebndajhppgaaGreatDoorMnGTm1
import Derived.Shelf.Abstract
import Derived.Deep.DeepCutAuto
import Derived.Sort.Grow
import Derived.Test.YtjaebndajhppgaaGreatDoorMnGRg3
import Derived.Laws.StructEq
set_option linter.unusedVariables false
set_option linter.unusedSimpArgs false
set_option maxRecDepth 100000
set_option maxHeartbeats 1000000
namespace Go.Proofs.YtjaebndajhppgaaGreatDoor.Rg
theorem rows_get {l:List T} (hn:l.Nodup) (p:T) (i:Nat) (h:i<l.countP (fnd p).2.2-l.countP (fnd p).2.1):(O l (fnd p).1)[l.countP (fnd p).2.1+i]?=((O l (fnd p).1).filter (mt p))[i]?:=by
 rw [←rows_eq hn p,List.getElem?_drop,List.getElem?_take_of_lt (by omega)]
theorem rows_length {l:List T} (p:T):((O l (fnd p).1).filter (mt p)).length=l.countP (fnd p).2.2-l.countP (fnd p).2.1:=by
 rw [←List.countP_eq_length_filter,(O_perm l _).countP_eq]
 have:=count_eq l p
 omega
theorem mt_zero (t:T):mt (0,0,0) t=true:=by simp [mt]
end Go.Proofs.YtjaebndajhppgaaGreatDoor.Rg
namespace Go.Proofs.YtjaebndajhppgaaGreatDoor
open Go.ChangeShapes Go.WideShapes Go.ChangeAt Go.RowKit
def tl (t:Rg.T):List Value:=[.int .i64 t.1,.int .i64 t.2.1,.int .i64 t.2.2]
def tv (t:Rg.T):Value:=.agg #[.int .i64 t.1,.int .i64 t.2.1,.int .i64 t.2.2]
theorem tl_get (t:Rg.T) (i:Nat) (h:i<3):(tl t)[i]?=some (.int .i64 (Rg.at' t i)):=by
 match i,h with
 | 0,_=>rfl
 | 1,_=>rfl
 | 2,_=>rfl
theorem behind_any (c:Nat) (hc:c<3) (w:World):Calls Tryz.prog 224 #[.int .i64 c] w fun e w'=>e=.returned (.int .i64 (Rg.nx c:Nat))∧w'=w:=by
 go_enter Tryz.func224,Tryz.ntmps224
 go_wp2
 go_ret
 rcases Rg.c3 hc with rfl | rfl | rfl <;> exact ⟨rfl,rfl⟩
theorem ahead_any (c:Nat) (hc:c<3) (w:World):Calls Tryz.prog 114 #[.int .i64 c] w fun e w'=>e=.returned (.int .i64 (Rg.pv c:Nat))∧w'=w:=by
 go_enter Tryz.func114,Tryz.ntmps114
 go_wp2
 go_ret
 rcases Rg.c3 hc with rfl | rfl | rfl <;> exact ⟨rfl,rfl⟩
theorem inan_any (x:Int) (w:World):Calls Tryz.prog 203 #[.int .i64 x] w fun e w'=>e=.returned (.bool false)∧w'=w:=by
 go_enter Tryz.func203,Tryz.ntmps203
 go_wp2
 go_ret
 exact ⟨by simp,rfl⟩
def ci (x y:Int):Int:=if x<y then -1 else if y<x then 1 else 0
theorem icmp_any (x y:Int) (w:World):Calls Tryz.prog 169 #[.int .i64 x,.int .i64 y] w fun e w'=>e=.returned (.int .i64 (ci x y))∧w'=w:=by
 go_enter Tryz.func169,Tryz.ntmps169
 go_wp2_with (go_at_call 203;refine (inan_any _ _).mono ?_;rintro e w' ⟨rfl,rfl⟩)
 all_goals (go_ret;refine ⟨?_,rfl⟩;unfold ci;(repeat' split) <;> first | rfl | (exfalso;omega))
theorem rgscmp_any (x y:Rg.T) (b1 b2:Nat) (t1 t2:TypeId) (w:World) (h1:Blk w b1 (tl x) t1) (h2:Blk w b2 (tl y) t2) :
  Calls Tryz.prog 119 #[.slice (some ⟨b1,0,none⟩) 3 3,.slice (some ⟨b2,0,none⟩) 3 3] w fun e w'=>e=.returned (.int .i64 (Rg.cmp x y))∧w'=w:=by
 have H1:=hid fun i (h:i<3)=>h1.cell (tl_get x i h)
 have H2:=hid fun i (h:i<3)=>h2.cell (tl_get y i h)
 clear h1 h2
 go_enter Tryz.func119,Tryz.ntmps119
 go_wp2
 go_loopw [11] (fun s11 wr=>∃ i:Nat,i≤3∧s11=.int .i64 i∧wr=w∧Hid (∀ j,j<i→Rg.at' x j=Rg.at' y j)) (fun s11 _=>3-(intOf s11).toNat)
 case atStart=>exact ⟨0,by omega,rfl,rfl,fun j hj=>absurd hj (Nat.not_lt_zero _)⟩
 case round=>
  obtain ⟨i,hi,rfl,hww,HE⟩:=hrel
  subst hww
  by_cases hlt:i<3
  · have c1:=H1.out i hlt
    have c2:=H2.out i hlt
    have IC:=icmp_any (Rg.at' x i) (Rg.at' y i) wr
    by_cases hc:ci (Rg.at' x i) (Rg.at' y i)=0
    · rw [hc] at IC
      have HC:=hid hc
      clear hc
      go_wp2_with (go_at_call 169;refine IC.mono ?_;rintro e w' ⟨rfl,rfl⟩)
      go_roundw
      case rel=>
       refine ⟨i+1,by omega,by go_num,trivial,fun j hj=>?_⟩
       by_cases hji:j<i
       · exact HE.out j hji
       · obtain rfl:j=i:=by omega
         have:=HC.out
         unfold ci at this
         split at this
         · omega
         · split at this <;> omega
      case measure=>simp [intOf];omega
    · have hr:ci (Rg.at' x i) (Rg.at' y i)=Rg.cmp x y:=by
       have he:=HE.out
       unfold ci at hc ⊢
       unfold Rg.cmp
       have e0:=he 0
       have e1:=he 1
       obtain ⟨x0,x1,x2⟩:=x
       obtain ⟨y0,y1,y2⟩:=y
       rcases Rg.c3 hlt with rfl | rfl | rfl <;> simp [Rg.at'] at * <;> (repeat' split) <;> first | rfl | omega | (exfalso;omega)
      have HR:=hid hr
      clear hr
      generalize ci (Rg.at' x i) (Rg.at' y i)=r at *
      go_wp2_with (go_at_call 169;refine IC.mono ?_;rintro e w' ⟨rfl,rfl⟩)
      go_ret
      exact ⟨by rw [HR.out];rfl,rfl⟩
  · obtain rfl:i=3:=by omega
    have hr:Rg.cmp x y=0:=by
     have he:=HE.out
     have e0:=he 0 (by omega)
     have e1:=he 1 (by omega)
     have e2:=he 2 (by omega)
     simp only [Rg.at'] at e0 e1 e2
     unfold Rg.cmp
     simp at e0 e1 e2
     simp [e0,e1,e2]
    have HR:=hid hr
    clear hr
    go_wp2
    go_ret
    exact ⟨by rw [HR.out];rfl,rfl⟩
def Dr (w w':World):Prop:=∃ q,w'.drawn=w.drawn+q
theorem Dr.refl (w:World):Dr w w:=⟨0,rfl⟩
theorem Dr.trans {a b c:World} (h:Dr a b) (k:Dr b c):Dr a c:=by
 obtain ⟨p,hp⟩:=h;obtain ⟨q,hq⟩:=k;exact ⟨p+q,by rw [hq,hp,Nat.add_assoc]⟩
theorem Dr.alloc {a b:World} (h:Dr a b) (o:Obj):Dr a (b.alloc o):=h
theorem Dr.drewN {a b:World} (h:Dr a b) (n:Nat):Dr a (b.drewN n):=by
 obtain ⟨p,hp⟩:=h;exact ⟨p+n,by show b.drawn+n=_;rw [hp,Nat.add_assoc]⟩
theorem Dr.setCell {a b:World} (h:Dr a b) (x:Addr) (v:Value):Dr a (b.setCell x v):=by
 obtain ⟨p,hp⟩:=h;exact ⟨p,by rw [←hp];rfl⟩
theorem ids_ret {fn:Func} {tmps:Array Value} {Z:World} {b k:Nat} {v0 v1 v2:Value} (ht:tmps.getD k undef=.pointer (some ⟨b,0,none⟩)) (hZ:Blk Z b [v0,v1,v2] 77) (hf:fn.results=#[.cell k 77]) :
  (results fn tmps).run Tryz.prog Z=.ok (.agg #[v0,v1,v2]) Z:=by
 have h0:=hZ.cell (i:=0) rfl
 have h1:=hZ.cell (i:=1) rfl
 have h2:=hZ.cell (i:=2) rfl
 have ht':tmps[k]?.getD undef=.pointer (some ⟨b,0,none⟩):=by simpa using ht
 simp [results,hf,ht',go_sem,h0,h1,h2]
theorem ids_box (w:World) (t:Rg.T):∃ w1,w1=w.alloc (.cells #[.int .i64 t.1,.int .i64 t.2.1,.int .i64 t.2.2] 77)∧Hid (Blk w1 w.heap.size (tl t) 77)∧Hid (Below w.heap.size w w1)∧Hid (Dr w w1)∧w1.heap.size=w.heap.size+1:=
 ⟨_,rfl,Blk.new w (tl t) 77,(Below.refl _ _).alloc (Nat.le_refl _) _,Dr.alloc (Dr.refl _) _,by simp⟩
theorem ids_cells {w:World} {b:Nat} {t:Rg.T} (h:Blk w b (tl t) 77):w.cell? ⟨b,0,none⟩=some (.int .i64 t.1)∧w.cell? ⟨b,1,none⟩=some (.int .i64 t.2.1)∧w.cell? ⟨b,2,none⟩=some (.int .i64 t.2.2):=
 ⟨h.cell rfl,h.cell rfl,h.cell rfl⟩
theorem two_box (w:World) (x y:Rg.T):∃ w1,w1=(w.alloc (.cells #[.int .i64 x.1,.int .i64 x.2.1,.int .i64 x.2.2] 77)).alloc (.cells #[.int .i64 y.1,.int .i64 y.2.1,.int .i64 y.2.2] 77)∧Hid (Blk w1 w.heap.size (tl x) 77)∧Hid (Blk w1 (w.heap.size+1) (tl y) 77)∧Hid (Below w.heap.size w w1)∧Hid (Dr w w1):=by
 refine ⟨_,rfl,(Blk.new w (tl x) 77).alloc _,Blk.new' (by simp) rfl,((Below.refl _ _).alloc (Nat.le_refl _) _).alloc (by simp) _,Dr.alloc (Dr.alloc (Dr.refl _) _) _⟩
theorem rgrcmp_any (x y:Rg.T) (w:World):Calls Tryz.prog 81 #[tv x,tv y] w fun e w'=>e=.returned (.int .i64 (Rg.cmp x y))∧Below w.heap.size w w'∧Dr w w':=by
 unfold tv
 go_enter Tryz.func81,Tryz.ntmps81
 go_upto_region 1 with fail
 obtain ⟨w1,hw1,HX,HY,HB,HD⟩:=two_box w x y
 rw [←hw1]
 clear hw1
 have SC:=hid fun q=>rgscmp_any x y w.heap.size (w.heap.size+1) 77 77 (w1.drewN q) (HX.out.drewN q) (HY.out.drewN q)
 go_quiet ((go_at_call 119;exact drawn_same fun W hW=>by rw [hW];exact SC.out _))
 go_wp2
 go_ret
 exact ⟨rfl,below_drawn HB.out _,HD.out.drewN _⟩
theorem turned_any (t:Rg.T) (c:Nat) (hc:c<3) (w:World):Calls Tryz.prog 182 #[tv t,.int .i64 c] w fun e w'=>e=.returned (tv (Rg.rot c t))∧Below w.heap.size w w'∧Dr w w':=by
 unfold tv
 have BH:=hid fun W=>behind_any c hc W
 have AH:=hid fun W=>ahead_any c hc W
 go_enter Tryz.func182,Tryz.ntmps182
 go_upto_region 1 with fail
 obtain ⟨w1,hw1,HX,HY,HB,HD⟩:=two_box w t (0,0,0)
 rw [show (w.alloc (.cells #[.int .i64 t.1,.int .i64 t.2.1,.int .i64 t.2.2] 77)).alloc (.cells #[.int .i64 0,.int .i64 0,.int .i64 0] 77)=w1 from hw1.symm]
 clear hw1
 have c0:=HX.out.cell (tl_get t c hc)
 have c1:=HX.out.cell (tl_get t (Rg.nx c) (Nat.mod_lt _ (by decide)))
 have c2:=HX.out.cell (tl_get t (Rg.pv c) (Rg.pv_lt c))
 have hnx:Rg.nx c<3:=Nat.mod_lt _ (by decide)
 have hpv:Rg.pv c<3:=Rg.pv_lt c
 refine wp_region_drawn_tail 12 (by kernel_rfl) (by kernel_rfl) ?_
 simp only [List.take_succ_cons,List.take_zero,List.drop_succ_cons,List.drop_zero]
 repeat (go_big_quiet_step (first | (go_at_call 224;exact drawn_same fun W hW=>BH.out W) | (go_at_call 114;exact drawn_same fun W hW=>AH.out W)))
 refine wpQuiet_nil ?_
 rintro _ ⟨nq,rfl⟩
 obtain ⟨W,hW⟩:∃ W,W=w1.drewN nq:=⟨_,rfl⟩
 rw [←hW]
 have HY2:Blk W (w.heap.size+1) (tl (0,0,0)) 77:=by rw [hW];exact HY.out.drewN nq
 have HB2:=hid (show Below w.heap.size w W by rw [hW];exact below_drawn HB.out nq)
 have HD2:=hid (show Dr w W by rw [hW];exact HD.out.drewN nq)
 have d0:=HY2.cell (i:=0) rfl
 have d1:=HY2.cell (i:=1) rfl
 have d2:=HY2.cell (i:=2) rfl
 have f0:=HY2.free 0
 have f1:=HY2.free 1
 have f2:=HY2.free 2
 have HY3:=hid HY2
 clear hW c0 c1 c2 HY2
 go_wp2
 have HZ:=hid (((HY3.out.set 0 (.int .i64 (Rg.at' t c))).set 1 (.int .i64 (Rg.at' t (Rg.nx c)))).set 2 (.int .i64 (Rg.at' t (Rg.pv c))))
 exact bodyPost_ret (v:=.agg #[.int .i64 (Rg.at' t c),.int .i64 (Rg.at' t (Rg.nx c)),.int .i64 (Rg.at' t (Rg.pv c))]) (ids_ret rfl HZ.out Tryz.results182) rfl ⟨rfl,((HB2.out.setCell (by simp) _).setCell (by simp) _).setCell (by simp) _,((HD2.out.setCell _ _).setCell _ _).setCell _ _⟩
structure Gro (w:World) where
 it:World
 low:Below w.heap.size w it
 dr:Dr w it
instance {w:World}:Nonempty (Gro w):=⟨⟨w,Below.refl _ w,Dr.refl w⟩⟩
theorem wp_region_gro {P:Program} {id:Nat} {Q:Exit→Act→World→Prop} {a:Act} {w:World} {l:List Oper} (hm:P.follows .mixedOrders=true) (hB:Region.lexB .any l.toArray=true)
  (h:wpQuiet P l.toArray (fun w'=>∃ p:Gro w,w'=p.it) (fun a'=>∀ w',(∃ p:Gro w,w'=p.it)→Q .normal a' w') l a):(Code.region id l.toArray true).wp P Q a w:=
 wp_region_quiet (C:=fun w'=>∃ p:Gro w,w'=p.it) hm hB ⟨⟨_,(Below.refl _ w).drew,⟨1,rfl⟩⟩,rfl⟩ (by simpa using h)
theorem Gro.call {P:Program} {f:FuncId} {args:Array Value} {w:World} {p:Gro w} {v:Value}
  (h:Calls P f args p.it fun e w'=>e=.returned v∧Below p.it.heap.size p.it w'∧Dr p.it w'):Calls P f args p.it fun e w''=>e=.returned v∧∃ q:Gro w,w''=q.it:=
 h.mono fun _ _ ⟨he,hb,hd⟩=>⟨he,⟨_,below_then p.low hb,p.dr.trans hd⟩,rfl⟩
theorem Gro.keep {w:World} (p:Gro w) {b o:Nat} {v:Value} (hc:w.cell? ⟨b,o,none⟩=some v):p.it.cell? ⟨b,o,none⟩=some v:=below_keep p.low hc
theorem grown_eq {w w':World} (h:Below w.heap.size w w') (d:Dr w w'):∃ q os,w'=Go.Sort.grow (w.drewN q) os:=by
 obtain ⟨q,hq⟩:=d
 refine ⟨q,w'.heap.extract w.heap.size w'.heap.size,?_⟩
 have hh:w'.heap=w.heap++w'.heap.extract w.heap.size w'.heap.size:=by
  apply Array.ext_getElem?
  intro k
  rw [Array.getElem?_append]
  split
  · rename_i hk;exact h.block k hk
  · rename_i hk
    rw [Array.getElem?_extract]
    have hs:=h.size
    by_cases hk2:k<w'.heap.size
    · rw [if_pos (by omega),show w.heap.size+(k-w.heap.size)=k by omega]
    · rw [if_neg (by omega),Array.getElem?_eq_none (by omega)]
 obtain ⟨h1,h2,h3,h4,h5⟩:=w'
 have e1:=h.tape
 have e2:=h.os
 have e3:=h.output
 simp only at e1 e2 e3 hq hh
 subst e1 e2 e3 hq
 unfold Go.Sort.grow World.drewN
 simp only [World.mk.injEq,and_true,true_and]
 exact hh
theorem colF_any (x y:Rg.T) (c bc:Nat) (hc:c<3) (w:World) (hb:w.cell? ⟨bc,0,none⟩=some (.int .i64 c)) :
  Calls Tryz.prog 181 #[tv x,tv y,.pointer (some ⟨bc,0,none⟩)] w fun e w'=>e=.returned (.int .i64 (Rg.cf c x y))∧Below w.heap.size w w'∧Dr w w':=by
 unfold tv
 go_enter Tryz.func181,Tryz.ntmps181
 go_upto_region 1 with fail
 obtain ⟨w1,hw1,HX,HY,HB,HD⟩:=two_box w x y
 rw [←hw1]
 clear hw1
 have g0:=fun q:Gro w1=>q.keep (below_keep HB.out hb)
 have g1:=fun q:Gro w1=>q.keep (ids_cells HX.out).1
 have g2:=fun q:Gro w1=>q.keep (ids_cells HX.out).2.1
 have g3:=fun q:Gro w1=>q.keep (ids_cells HX.out).2.2
 have g4:=fun q:Gro w1=>q.keep (ids_cells HY.out).1
 have g5:=fun q:Gro w1=>q.keep (ids_cells HY.out).2.1
 have g6:=fun q:Gro w1=>q.keep (ids_cells HY.out).2.2
 have T1:=hid fun q:Gro w1=>turned_any x c hc q.it
 have T2:=hid fun q:Gro w1=>turned_any y c hc q.it
 have CM:=hid fun q:Gro w1=>rgrcmp_any (Rg.rot c x) (Rg.rot c y) q.it
 unfold tv at T1 T2 CM
 have hcf:Rg.cmp (Rg.rot c x) (Rg.rot c y)=Rg.cf c x y:=rfl
 rw [hcf] at CM
 generalize Rg.rot c x=rx at *
 generalize Rg.rot c y=ry at *
 obtain ⟨r,hr⟩:∃ r,r=Rg.cf c x y:=⟨_,rfl⟩
 rw [←hr] at CM
 have HR:=hid hr
 clear hb HX HY hr
 refine wp_region_gro (by kernel_rfl) (by kernel_rfl) ?_
 repeat (go_big_quiet_step (first | (go_at_call 182;with_reducible exact Gro.call (T1.out _)) | (go_at_call 182;with_reducible exact Gro.call (T2.out _)) | (go_at_call 81;with_reducible exact Gro.call (CM.out _))))
 refine wpQuiet_nil ?_
 rintro _ ⟨q,rfl⟩
 go_wp2
 go_ret
 exact ⟨by rw [←HR.out];rfl,below_then HB.out q.low,HD.out.trans q.dr⟩
def IsRing (w:World) (p:Nat) (l:List Rg.T):Prop:=l.Pairwise Rg.lt∧(∀ t∈l,Rg.Ok t)∧l.length≤100∧∃ pw:Nat→Nat,∀ c,c<3→w.cell? ⟨p,c,none⟩=some (.pointer (some ⟨pw c,0,none⟩))∧IsWave w (pw c) (Rg.A l c) 10
theorem IsRing.keep {w w':World} {p:Nat} {l:List Rg.T} (h:IsRing w p l) (hb:Below w.heap.size w w'):IsRing w' p l:=by
 obtain ⟨h1,h2,h3,pw,h4⟩:=h
 exact ⟨h1,h2,h3,pw,fun c hc=>⟨below_keep hb (h4 c hc).1,(h4 c hc).2.keep hb⟩⟩
theorem IsRing.nodup {w:World} {p:Nat} {l:List Rg.T} (h:IsRing w p l):l.Nodup:=h.1.imp fun {a b} hab=>by intro e;subst e;exact Rg.lt_irrefl _ hab
theorem wlen_wave (p wd:Nat) (l:List Nat) (w:World) (h:IsWave w p l wd):Calls Tryz.prog 77 #[.pointer (some ⟨p,0,none⟩)] w fun e w'=>e=.returned (.int .i64 l.length)∧w'=w:=by
 obtain ⟨_,_,_,ad,cap,c0,_⟩:=h
 exact wlen_cell p _ w c0
theorem rlen_any (p:Nat) (l:List Rg.T) (w:World) (h:IsRing w p l):Calls Tryz.prog 37 #[.pointer (some ⟨p,0,none⟩)] w fun e w'=>e=.returned (.int .i64 l.length)∧w'=w:=by
 obtain ⟨_,_,_,pw,h4⟩:=h
 have c0:=(h4 0 (by omega)).1
 have WL:=wlen_wave (pw 0) 10 _ w (h4 0 (by omega)).2
 rw [Rg.A_length] at WL
 clear h4
 go_enter Tryz.func37,Tryz.ntmps37
 go_wp2_with (go_at_call 77;refine WL.mono ?_;rintro e w' ⟨rfl,rfl⟩)
 go_ret
 exact ⟨rfl,rfl⟩
theorem step_any (p c:Nat) (l:List Rg.T) (P:Rg.T→Bool) (v:Int) (w:World) (h:IsRing w p l) (hc:c<3) (hP:Rg.Lower c P) (hv:-9223372036854775808≤v) :
  Calls Tryz.prog 115 #[.pointer (some ⟨p,0,none⟩),.int .i64 c,.int .i64 (l.countP P:Nat),.int .i64 v] w fun e w'=>e=.returned (.int .i64 (l.countP (Rg.ahd c v P):Nat))∧Below w.heap.size w w':=by
 have hnd:=h.nodup
 obtain ⟨h1,h2,h3,pw,h4⟩:=h
 obtain ⟨c0,hw⟩:=h4 c hc
 have hs:=Rg.step_eq hc hnd h2 hP v
 have hcp:l.countP P≤l.length:=List.countP_le_length
 have hcp2:l.countP (Rg.ahd c v P)≤l.length:=List.countP_le_length
 have hal:=Rg.A_length l c
 have WL:=hid fun W (hb:Below w.heap.size w W)=>wlen_wave (pw c) 10 _ W (hw.keep hb)
 have WC:=hid fun W (hb:Below w.heap.size w W)=>wcount_any (pw c) 10 _ 0 l.length v 1000 W (hw.keep hb) (by omega)
 have WR:=hid fun W (hb:Below w.heap.size w W)=>wrank_any (pw c) 10 _ v (l.countP P:Nat) W (hw.keep hb) hv
 rw [Wv.rng_zero,hal] at WC WR
 rw [hal] at WL
 have e1:Wv.hiEnd l.length (l.length:Int)=l.length:=by unfold Wv.hiEnd;omega
 have e2:Wv.hiEnd l.length ((l.countP P:Nat):Int)=l.countP P:=by unfold Wv.hiEnd;omega
 rw [e1] at WC
 rw [e2] at WR
 have e3:(Rg.A l c).take l.length=Rg.A l c:=by rw [←hal,List.take_length]
 rw [e3] at WC
 have k1:=Wv.cntR_le (Rg.A l c) v 1000
 have k2:=Wv.cntR_le ((Rg.A l c).take (l.countP P)) v v
 rw [hal] at k1
 rw [List.length_take] at k2
 have hs2:(l.length:Int)-(Wv.cntR (Rg.A l c) v 1000:Nat)+(Wv.cntR ((Rg.A l c).take (l.countP P)) v v:Nat)=(l.countP (Rg.ahd c v P):Nat):=hs
 generalize Wv.cntR (Rg.A l c) v 1000=x1 at *
 generalize Wv.cntR ((Rg.A l c).take (l.countP P)) v v=x2 at *
 generalize l.countP (Rg.ahd c v P)=r at *
 generalize l.countP P=i at *
 have HS:=hid hs2
 clear h1 h2 h4 hs hs2 hw e1 e2 e3 hP hal hnd
 go_enter Tryz.func115,Tryz.ntmps115
 go_upto_region 2 with fail
 have WL0:=WL.out w (Below.refl _ _)
 have WC0:=WC.out w (Below.refl _ _)
 go_wp2_with (first | (go_at_call 77;refine WL0.mono ?_;rintro e w' ⟨rfl,rfl⟩) | (go_at_call 154;refine WC0.mono ?_;rintro e w2 ⟨rfl,hb2⟩))
 go_wp2_with ((go_at_call 155;refine (WR.out w2 hb2).mono ?_;rintro e w3 ⟨rfl,hb3⟩))
 go_ret
 exact ⟨by rw [HS.out];rfl,below_then hb2 hb3⟩
theorem begin_any (t:Rg.T) (w:World):Calls Tryz.prog 113 #[tv t] w fun e w'=>e=.returned (.int .i64 (Rg.start t:Nat))∧Below w.heap.size w w':=by
 unfold tv
 have AH:=hid fun c hc W=>ahead_any c hc W
 go_enter Tryz.func113,Tryz.ntmps113
 go_upto_region 1 with fail
 obtain ⟨w1,hw1,HX,HB,HD,hz⟩:=ids_box w t
 rw [←hw1]
 clear hw1
 go_wp2
 go_loopw [4] (fun s4 wr=>∃ i:Nat,i≤3∧s4=.int .i64 i∧wr=w1∧Hid (∀ j,j<i→¬ (Rg.at' t j=0∧Rg.at' t (Rg.pv j)≠0))) (fun s4 _=>3-(intOf s4).toNat)
 case atStart=>exact ⟨0,by omega,rfl,rfl,fun j hj=>absurd hj (Nat.not_lt_zero _)⟩
 case round=>
  obtain ⟨i,hi,rfl,hww,HE⟩:=hrel
  subst hww
  by_cases hlt:i<3
  · have hpv:=Rg.pv_lt i
    have c0:=HX.out.cell (tl_get t i hlt)
    have c1:=HX.out.cell (tl_get t (Rg.pv i) hpv)
    by_cases h0:Rg.at' t i=0
    · rw [h0] at c0
      by_cases h1:Rg.at' t (Rg.pv i)=0
      · rw [h1] at c1
        have H1:=hid h1
        clear h0 h1
        go_wp2_with (go_at_call 114;refine (AH.out _ hlt _).mono ?_;rintro e w' ⟨rfl,rfl⟩)
        go_roundw
        case rel=>
         refine ⟨i+1,by omega,by go_num,trivial,fun j hj=>?_⟩
         by_cases hji:j<i
         · exact HE.out j hji
         · obtain rfl:j=i:=by omega
           intro h;exact h.2 H1.out
        case measure=>simp [intOf];omega
      · have H0:=hid h0
        have H1:=hid h1
        clear h0
        go_wp2_with (go_at_call 114;refine (AH.out _ hlt _).mono ?_;rintro e w' ⟨rfl,rfl⟩)
        go_ret
        refine ⟨?_,HB.out⟩
        have he:=HE.out
        have hs:Rg.start t=i:=by
         have a0:=H0.out
         have a1:=H1.out
         have b0:=he 0
         have b1:=he 1
         unfold Rg.start
         rcases Rg.c3 hlt with rfl | rfl | rfl <;> simp [Rg.at',Rg.pv] at a0 a1 b0 b1 ⊢ <;> (repeat' split) <;> first | rfl | omega
        rw [hs];rfl
    · have H0:=hid h0
      go_wp2_with (go_at_call 114;refine (AH.out _ hlt _).mono ?_;rintro e w' ⟨rfl,rfl⟩)
      go_roundw
      case rel=>
       refine ⟨i+1,by omega,by go_num,trivial,fun j hj=>?_⟩
       by_cases hji:j<i
       · exact HE.out j hji
       · obtain rfl:j=i:=by omega
         intro h;exact H0.out h.1
      case measure=>simp [intOf];omega
  · obtain rfl:i=3:=by omega
    have hs:Rg.start t=0:=by
     have b0:=HE.out 0 (by omega)
     have b1:=HE.out 1 (by omega)
     have b2:=HE.out 2 (by omega)
     unfold Rg.start
     simp [Rg.at',Rg.pv] at b0 b1 b2 ⊢
     (repeat' split) <;> first | rfl | omega
    have HS:=hid hs
    clear hs
    go_wp2
    go_ret
    exact ⟨by rw [HS.out];rfl,HB.out⟩
theorem rgnew3 (w:World) (a b c:Value) (t:TypeId):∃ w1,w1=w.alloc (.cells #[a,b,c] t)∧Hid (Blk w1 w.heap.size [a,b,c] t)∧Hid (Below w.heap.size w w1):=
 ⟨_,rfl,Blk.new w [a,b,c] t,(Below.refl _ _).alloc (Nat.le_refl _) _⟩
theorem set3 {w:World} {b:Nat} {x y z:Value} {t:TypeId} (h:Blk w b [x,y,z] t) (v0 v1 v2:Value):Blk (((w.setCell ⟨b,0,none⟩ v0).setCell ⟨b,1,none⟩ v1).setCell ⟨b,2,none⟩ v2) b [v0,v1,v2] t:=((h.set 0 v0).set 1 v1).set 2 v2
theorem below_set3 {w X:World} {b:Nat} (h:Below w.heap.size w X) (hb:w.heap.size≤b) (v0 v1 v2:Value):Below w.heap.size w (((X.setCell ⟨b,0,none⟩ v0).setCell ⟨b,1,none⟩ v1).setCell ⟨b,2,none⟩ v2):=((h.setCell hb _).setCell hb _).setCell hb _
theorem blk_set3 {X:World} {b q:Nat} {A:List Value} {t:TypeId} (h:Blk X q A t) (hb:q≠b) (v0 v1 v2:Value):Blk (((X.setCell ⟨b,0,none⟩ v0).setCell ⟨b,1,none⟩ v1).setCell ⟨b,2,none⟩ v2) q A t:=((h.other hb 0 v0).other hb 1 v1).other hb 2 v2
theorem rows_ret {fn:Func} {tmps:Array Value} {Z:World} {b k:Nat} {v0 v1 v2:Value} (ht:tmps.getD k undef=.pointer (some ⟨b,0,none⟩)) (hZ:Blk Z b [v0,v1,v2] 131) (hf:fn.results=#[.cell k 131]) :
  (results fn tmps).run Tryz.prog Z=.ok (.agg #[v0,v1,v2]) Z:=by
 have h0:=hZ.cell (i:=0) rfl
 have h1:=hZ.cell (i:=1) rfl
 have h2:=hZ.cell (i:=2) rfl
 have ht':tmps[k]?.getD undef=.pointer (some ⟨b,0,none⟩):=by simpa using ht
 simp [results,hf,ht',go_sem,h0,h1,h2]
def fv (l:List Rg.T) (r:Nat×(Rg.T→Bool)×(Rg.T→Bool)):Value:=.agg #[.int .i64 r.1,.int .i64 (l.countP r.2.1:Nat),.int .i64 (l.countP r.2.2:Nat)]
theorem find_any (p:Nat) (l:List Rg.T) (t:Rg.T) (w:World) (h:IsRing w p l) (ht:∀ c,c<3→-9223372036854775808≤Rg.at' t c) :
  Calls Tryz.prog 78 #[.pointer (some ⟨p,0,none⟩),tv t] w fun e w'=>e=.returned (fv l (Rg.fnd t))∧Below w.heap.size w w':=by
 have AH:=hid fun c hc W=>ahead_any c hc W
 have BG:=hid fun W=>begin_any t W
 have HR:=hid h
 have HT:=hid ht
 have ST:=hid (Rg.start_lt t)
 clear h ht
 unfold tv at *
 go_enter Tryz.func78,Tryz.ntmps78
 go_upto_region 1 with fail
 obtain ⟨w1,hw1,HX,HB,HD,hz⟩:=ids_box w t
 rw [←hw1]
 clear hw1
 obtain ⟨w2,hw2,HY,HB2⟩:=rgnew3 w1 (.int .i64 0) (.int .i64 0) (.int .i64 0) 131
 rw [hz] at HY
 rw [←hw2]
 have c0:=(ids_cells (HX.out.keep HB2.out)).1
 have c1:=(ids_cells (HX.out.keep HB2.out)).2.1
 have c2:=(ids_cells (HX.out.keep HB2.out)).2.2
 have hz2:w2.heap.size=w.heap.size+1+1:=by rw [hw2];simp [hz]
 clear hw2
 go_upto_region 2 with (go_at_call 113;refine (BG.out _).mono ?_;rintro e w3 ⟨rfl,hb3⟩)
 have RL:=rlen_any p l w3 (HR.out.keep (below_then (below_then HB.out HB2.out) hb3))
 have HB4:=hid (below_then (below_then HB.out HB2.out) hb3)
 have HX4:=hid ((HX.out.keep HB2.out).keep hb3)
 have HY4:=hid (HY.out.keep hb3)
 have hz4:=hb3.size
 have HL:=hid (show l.length≤100 from HR.out.2.2.1)
 clear HX HY HB HB2 HD hb3 BG c0 c1 c2
 go_upto_region 3 with (go_at_call 37;refine RL.mono ?_;rintro e w4 ⟨rfl,rfl⟩)
 have hle:=HB4.out.size
 obtain ⟨w5,hw5,HF5,HB5⟩:=rgnew3 w4 (.int .i64 (Rg.start t:Nat)) (.int .i64 0) (.int .i64 l.length) 131
 rw [←hw5]
 have HX5:=hid (HX4.out.keep HB5.out)
 have HY5:=hid (HY4.out.keep HB5.out)
 have HB6:=hid (below_then HB4.out HB5.out)
 clear hw5 HX4 HY4 HB4 RL
 go_wp2
 go_loopw [13,5] (fun s13 s5 wr=>∃ (k c:Nat) (P Q:Rg.T→Bool),k≤3∧c<3∧s13=.int .i64 k∧s5=.int .i64 c∧Hid (Below w.heap.size w wr)∧Hid (Blk wr w.heap.size (tl t) 77)∧Hid (Blk wr (w.heap.size+1) [.int .i64 0,.int .i64 0,.int .i64 0] 131) ∧
   Hid (Blk wr w4.heap.size [.int .i64 c,.int .i64 (l.countP P:Nat),.int .i64 (l.countP Q:Nat)] 131)∧Hid (Rg.way t (3-k) c P Q=Rg.fnd t)∧Hid (Rg.Lower c P)∧Hid (Rg.Lower c Q)) (fun s13 s5 _=>3-(intOf s13).toNat)
 case atStart=>
  refine ⟨0,Rg.start t,(fun _=>false),(fun _=>true),by omega,ST.out,rfl,rfl,HB6.out,HX5.out,HY5.out,?_,rfl,fun _ _ _ h=>h,fun _ _ _ h=>h⟩
  have e1:l.countP (fun _=>false)=0:=by simp
  have e2:l.countP (fun _=>true)=l.length:=by simp
  rw [e1,e2];exact HF5.out
 case round=>
  obtain ⟨k,c,P,Q,hk,hc,rfl,rfl,HB,HX,HY,HF,HW,HP,HQ⟩:=hrel
  have hcl:=HL.out
  have q1:l.countP P≤l.length:=List.countP_le_length
  have q2:l.countP Q≤l.length:=List.countP_le_length
  by_cases hlt:k<3
  · have hpv:=Rg.pv_lt c
    have c0:=HX.out.cell (tl_get t (Rg.pv c) hpv)
    by_cases h0:Rg.at' t (Rg.pv c)=0
    · rw [h0] at c0
      have hw:Rg.fnd t=(c,P,Q):=by
       rw [←HW.out,show 3-k=(3-k-1)+1 by omega]
       unfold Rg.way
       rw [if_pos h0]
      have HWW:=hid hw
      have d0:=HF.out.cell (i:=0) rfl
      have d1:=HF.out.cell (i:=1) rfl
      have d2:=HF.out.cell (i:=2) rfl
      have r0:=HY.out.cell (i:=0) rfl
      have r1:=HY.out.cell (i:=1) rfl
      have r2:=HY.out.cell (i:=2) rfl
      have s0:=HY.out.free 0
      have s1:=HY.out.free 1
      have s2:=HY.out.free 2
      clear h0 hw
      go_wp2_with (go_at_call 114;refine (AH.out _ hc _).mono ?_;rintro e w' ⟨rfl,rfl⟩)
      have HZ:=hid (set3 HY.out (.int .i64 c) (.int .i64 (l.countP P:Nat)) (.int .i64 (l.countP Q:Nat)))
      exact bodyPost_ret (v:=fv l (c,P,Q)) (rows_ret rfl HZ.out Tryz.results78) rfl ⟨by rw [HWW.out],below_set3 HB.out (by omega) _ _ _⟩
    · have hv:=HT.out (Rg.pv c) hpv
      obtain ⟨x,hx⟩:∃ x,x=Rg.at' t (Rg.pv c):=⟨_,rfl⟩
      rw [←hx] at c0 h0 hv
      have d0:=HF.out.cell (i:=0) rfl
      have d1:=HF.out.cell (i:=1) rfl
      have d2:=HF.out.cell (i:=2) rfl
      have hRn:=HR.out.keep HB.out
      have S1:=hid fun q:Later wr.heap.size wr=>step_any p c l P x q.it (hRn.keep q.low) hc HP.out hv
      have S2:=hid fun q:Later wr.heap.size wr=>step_any p c l Q x q.it (hRn.keep q.low) hc HQ.out hv
      have g0:=fun q:Later wr.heap.size wr=>q.keep c0
      have g1:=fun q:Later wr.heap.size wr=>q.keep d0
      have g2:=fun q:Later wr.heap.size wr=>q.keep d1
      have g3:=fun q:Later wr.heap.size wr=>q.keep d2
      have hnw:Rg.way t (3-(k+1)) (Rg.pv c) (Rg.ahd c x P) (Rg.ahd c x Q)=Rg.fnd t:=by
       rw [←HW.out,show 3-k=(3-(k+1))+1 by omega]
       conv=>rhs;unfold Rg.way
       rw [←hx,if_neg h0]
      have HNW:=hid hnw
      have HP2:=hid (Rg.lower_ahd hc x HP.out)
      have HQ2:=hid (Rg.lower_ahd hc x HQ.out)
      obtain ⟨n1,hn1⟩:∃ n1,n1=l.countP (Rg.ahd c x P):=⟨_,rfl⟩
      obtain ⟨n2,hn2⟩:∃ n2,n2=l.countP (Rg.ahd c x Q):=⟨_,rfl⟩
      rw [←hn1] at S1
      rw [←hn2] at S2
      have HN1:=hid hn1
      have HN2:=hid hn2
      clear hx hRn hnw hn1 hn2 HW
      go_upto_region 6 with (go_at_call 114;refine (AH.out _ hc _).mono ?_;rintro e w' ⟨rfl,hww⟩;have hw2:=hww.symm;subst hw2)
      refine wp_region_later_tail 21 wr.heap.size (by kernel_rfl) (by kernel_rfl) ?_
      simp only [List.take_succ_cons,List.take_zero,List.drop_succ_cons,List.drop_zero]
      repeat (go_big_quiet_step (first | (go_at_call 114;with_reducible exact Later.call_same (AH.out _ hc _)) | (go_at_call 115;with_reducible exact Later.call (Nat.le_refl _) (S1.out _)) | (go_at_call 115;with_reducible exact Later.call (Nat.le_refl _) (S2.out _))))
      refine wpQuiet_nil ?_
      rintro wq ⟨q,hq⟩
      have hlow:Below wr.heap.size wr wq:=by rw [hq];exact q.low
      have HFq:=hid (HF.out.keep hlow)
      have HXq:=hid (HX.out.keep hlow)
      have HYq:=hid (HY.out.keep hlow)
      have HBq:=hid (below_then HB.out hlow)
      have k0:=HFq.out.cell (i:=0) rfl
      have k1:=HFq.out.cell (i:=1) rfl
      have k2:=HFq.out.cell (i:=2) rfl
      have s0:=HFq.out.free 0
      have s1:=HFq.out.free 1
      have s2:=HFq.out.free 2
      have hxlt:=HXq.out.lt
      clear g0 g1 g2 g3 d0 d1 d2 c0 S1 S2 hq q hlow
      go_upto_region 7 with fail
      go_wp2_with (go_at_call 114;refine (AH.out _ hc _).mono ?_;rintro e w' ⟨rfl,rfl⟩)
      go_roundw
      case rel=>
       refine ⟨k+1,Rg.pv c,Rg.ahd c x P,Rg.ahd c x Q,by omega,hpv,by go_num,rfl,hid (below_set3 HBq.out (by omega) _ _ _),hid (blk_set3 HXq.out (by omega) _ _ _),hid (blk_set3 HYq.out (by omega) _ _ _),hid ?_,HNW,HP2,HQ2⟩
       rw [←HN1.out,←HN2.out]
       exact set3 HFq.out _ _ _
      case measure=>simp [intOf];omega
  · obtain rfl:k=3:=by omega
    have hw:Rg.fnd t=(c,P,Q):=by rw [←HW.out];rfl
    have HWW:=hid hw
    have d0:=HF.out.cell (i:=0) rfl
    have d1:=HF.out.cell (i:=1) rfl
    have d2:=HF.out.cell (i:=2) rfl
    have r0:=HY.out.cell (i:=0) rfl
    have r1:=HY.out.cell (i:=1) rfl
    have r2:=HY.out.cell (i:=2) rfl
    have s0:=HY.out.free 0
    have s1:=HY.out.free 1
    have s2:=HY.out.free 2
    clear hw
    go_wp2
    have HZ:=hid (set3 HY.out (.int .i64 c) (.int .i64 (l.countP P:Nat)) (.int .i64 (l.countP Q:Nat)))
    exact bodyPost_ret (v:=fv l (c,P,Q)) (rows_ret rfl HZ.out Tryz.results78) rfl ⟨by rw [HWW.out],below_set3 HB.out (by omega) _ _ _⟩
def setT (t:Rg.T) (d:Nat) (v:Int):Rg.T:=if d=0 then (v,t.2.1,t.2.2) else if d=1 then (t.1,v,t.2.2) else (t.1,t.2.1,v)
theorem tl_set (t:Rg.T) (d:Nat) (v:Int) (h:d<3):(tl t).set d (.int .i64 v)=tl (setT t d v):=by
 rcases Rg.c3 h with rfl | rfl | rfl <;> rfl
theorem at_set (t:Rg.T) (d e:Nat) (v:Int) (h:d<3) (k:e<3):Rg.at' (setT t d v) e=if e=d then v else Rg.at' t e:=by
 rcases Rg.c3 h with rfl | rfl | rfl <;> rcases Rg.c3 k with rfl | rfl | rfl <;> rfl
theorem at_ext {a b:Rg.T} (h:∀ d,d<3→Rg.at' a d=Rg.at' b d):a=b:=Rg.ext (h 0 (by omega)) (h 1 (by omega)) (h 2 (by omega))
def pvk (c k:Nat):Nat:=(c+2*k) % 3
theorem pvk_lt (c k:Nat):pvk c k<3:=Nat.mod_lt _ (by decide)
theorem pvk_zero (c:Nat) (h:c<3):pvk c 0=c:=by unfold pvk;omega
theorem pvk_succ (c k:Nat):Rg.pv (pvk c k)=pvk c (k+1):=by unfold pvk Rg.pv;omega
theorem A_at {l:List Rg.T} {c i:Nat} {t:Rg.T} (h:(Rg.O l c)[i]?=some t) (ht:Rg.Ok t):(((Rg.A l c).getD i 0:Nat):Int)=Rg.at' t (Rg.pv c):=by
 unfold Rg.A
 rw [List.getD,List.getElem?_map,h]
 have:=ht (Rg.pv c) (Rg.pv_lt c)
 simp;omega
theorem two_zero (w:World):∃ w1,w1=(w.alloc (.cells #[.int .i64 0,.int .i64 0,.int .i64 0] 77)).alloc (.cells #[.int .i64 0,.int .i64 0,.int .i64 0] 77)∧Hid (Blk w1 w.heap.size (tl (0,0,0)) 77)∧Hid (Blk w1 (w.heap.size+1) (tl (0,0,0)) 77)∧Hid (Below w.heap.size w w1):=
 ⟨_,rfl,(Blk.new w (tl (0,0,0)) 77).alloc _,Blk.new' (by simp) rfl,((Below.refl _ _).alloc (Nat.le_refl _) _).alloc (by simp) _⟩
theorem row_any (p c i:Nat) (l:List Rg.T) (t:Rg.T) (w:World) (h:IsRing w p l) (hc:c<3) (hi:(Rg.O l c)[i]?=some t) :
  Calls Tryz.prog 79 #[.pointer (some ⟨p,0,none⟩),.int .i64 c,.int .i64 i] w fun e w'=>e=.returned (tv t)∧Below w.heap.size w w':=by
 have hil:i<l.length:=by
  have:=(List.getElem?_eq_some_iff.1 hi).1
  rwa [Rg.O_length] at this
 obtain ⟨hidx,hmem⟩:=Rg.idx_at hc h.nodup hil hi
 have HR:=hid h
 have HM:=hid hmem
 have HND:=hid h.nodup
 have HOK:=hid (h.2.1 t hmem)
 have HL:=hid (show l.length≤100 from h.2.2.1)
 have AH:=hid fun c hc W=>ahead_any c hc W
 have HI:=hid hidx
 clear h hmem hi hidx
 go_enter Tryz.func79,Tryz.ntmps79
 go_upto_region 2 with fail
 obtain ⟨w1,hw1,HX,HY,HB⟩:=two_zero w
 rw [show (w.alloc (.cells #[.int .i64 0,.int .i64 0,.int .i64 0] 77)).alloc (.cells #[.int .i64 0,.int .i64 0,.int .i64 0] 77)=w1 from hw1.symm]
 clear hw1
 go_wp2
 go_loopw [9,1,2] (fun s9 s1 s2 wr=>∃ (k:Nat) (tc:Rg.T),k≤3∧s9=.int .i64 k∧s1=.int .i64 (pvk c k:Nat)∧s2=.int .i64 (l.countP (fun s=>decide (Rg.ltc (pvk c k) s t)):Nat)∧Hid (Below w.heap.size w wr)∧Hid (Blk wr w.heap.size (tl (0,0,0)) 77)∧Hid (Blk wr (w.heap.size+1) (tl tc) 77)∧Hid (∀ j,1≤j→j≤k→Rg.at' tc (pvk c j)=Rg.at' t (pvk c j))) (fun s9 _ _ _=>3-(intOf s9).toNat)
 case atStart=>
  refine ⟨0,(0,0,0),by omega,rfl,by rw [pvk_zero c hc],?_,HB.out,HX.out,HY.out,fun j h1 h2=>by omega⟩
  rw [pvk_zero c hc,HI.out]
 case round=>
  obtain ⟨k,tc,hk,rfl,rfl,rfl,HB,HX,HY,HD⟩:=hrel
  have hcl:=HL.out
  have hck:=pvk_lt c k
  obtain ⟨q1,q2⟩:=Rg.at_idx hck HND.out HM.out
  by_cases hlt:k<3
  · have hRn:=HR.out.keep HB.out
    obtain ⟨_,_,_,pw,h4⟩:=hRn
    obtain ⟨c0,hwv⟩:=h4 _ hck
    have ha:=A_at q2 HOK.out
    have hst:=step_any p (pvk c k) l (fun s=>decide (Rg.ltc (pvk c k) s t)) (Rg.at' t (Rg.pv (pvk c k))) wr
    have hP:Rg.ahd (pvk c k) (Rg.at' t (Rg.pv (pvk c k))) (fun s=>decide (Rg.ltc (pvk c k) s t))=fun s=>decide (Rg.ltc (Rg.pv (pvk c k)) s t):=funext fun s=>Rg.ahd_idx hck s t
    have hv:=HOK.out (Rg.pv (pvk c k)) (Rg.pv_lt _)
    have WA:=wacc_in (pw (pvk c k)) 10 (l.countP (fun s=>decide (Rg.ltc (pvk c k) s t))) (Rg.A l (pvk c k)) wr hwv (by rw [Rg.A_length];exact q1)
    rw [ha] at WA
    have ST:=hid fun W (hb:Below wr.heap.size wr W)=>step_any p (pvk c k) l (fun s=>decide (Rg.ltc (pvk c k) s t)) (Rg.at' t (Rg.pv (pvk c k))) W ((HR.out.keep HB.out).keep hb) hck (Rg.lower_idx t) (by omega)
    rw [hP] at ST
    have hd:=pvk_lt c (k+1)
    rw [pvk_succ] at WA ST hv
    obtain ⟨x,hx⟩:∃ x,x=Rg.at' t (pvk c (k+1)):=⟨_,rfl⟩
    rw [←hx] at WA ST hv
    have HXX:=hid hx
    clear hst hP q2 ha hwv h4 hx
    have AH2:=hid fun W=>AH.out (pvk c k) hck W
    rw [pvk_succ] at AH2
    have ST0:=ST.out wr (Below.refl _ _)
    generalize hi0:l.countP (fun s=>decide (Rg.ltc (pvk c k) s t))=i0 at *
    generalize hi1:l.countP (fun s=>decide (Rg.ltc (pvk c (k+1)) s t))=i1 at *
    have HI1:=hid hi1
    clear hi0 hi1 ST0
    go_upto_region 5 with (go_at_call 116;refine WA.mono ?_;rintro e w2 ⟨rfl,hb2⟩)
    have ST2:=ST.out w2 hb2
    have HB2:=hid hb2
    clear ST WA
    go_upto_region 6 with (go_at_call 115;refine ST2.mono ?_;rintro e w3 ⟨rfl,hb3⟩)
    have HY3:=hid (HY.out.keep (below_then HB2.out hb3))
    have HX3:=hid (HX.out.keep (below_then HB2.out hb3))
    have HB3:=hid (below_then HB.out (below_then HB2.out hb3))
    have c1:=HY3.out.cell (tl_get tc _ hd)
    have f1:=HY3.out.free (pvk c (k+1))
    clear ST2 hb3 HY HX HB HB2 hb2 c0
    generalize hdd:pvk c (k+1)=d at *
    have HDD:=hid hdd
    clear hdd
    go_wp2_with (go_at_call 114;refine (AH2.out _).mono ?_;rintro e w' ⟨rfl,hww⟩;have hw2:=hww.symm;subst hw2)
    go_roundw
    case rel=>
     refine ⟨k+1,setT tc d x,by omega,by go_num,by rw [HDD.out],by rw [HDD.out,HI1.out],HB3.out.setCell (by show w.heap.size≤w.heap.size+1;omega) _,HX3.out.other (by omega) _ _,?_,?_⟩
     · rw [←tl_set _ _ _ hd];exact HY3.out.set d _
     · intro j h1 h2
       have hj:=pvk_lt c j
       rw [at_set _ _ _ _ hd hj]
       split
       · rename_i e;rw [e];exact HXX.out
       · rename_i e
         refine HD.out j h1 ?_
         have:j≠k+1:=by intro e';apply e;rw [e'];exact HDD.out
         omega
    case measure=>simp [intOf];omega
  · obtain rfl:k=3:=by omega
    have hte:tc=t:=at_ext fun d hd=>by
     obtain ⟨j,h1,h2,h3⟩:∃ j,1≤j∧j≤3∧pvk c j=d:=by
      rcases Rg.c3 hc with rfl | rfl | rfl <;> rcases Rg.c3 hd with rfl | rfl | rfl
      · exact ⟨3,by omega,by omega,rfl⟩
      · exact ⟨2,by omega,by omega,rfl⟩
      · exact ⟨1,by omega,by omega,rfl⟩
      · exact ⟨1,by omega,by omega,rfl⟩
      · exact ⟨3,by omega,by omega,rfl⟩
      · exact ⟨2,by omega,by omega,rfl⟩
      · exact ⟨2,by omega,by omega,rfl⟩
      · exact ⟨1,by omega,by omega,rfl⟩
      · exact ⟨3,by omega,by omega,rfl⟩
     rw [←h3];exact HD.out j h1 h2
    subst hte
    have d0:=(ids_cells HY.out).1
    have d1:=(ids_cells HY.out).2.1
    have d2:=(ids_cells HY.out).2.2
    have r0:=HX.out.cell (i:=0) rfl
    have r1:=HX.out.cell (i:=1) rfl
    have r2:=HX.out.cell (i:=2) rfl
    have s0:=HX.out.free 0
    have s1:=HX.out.free 1
    have s2:=HX.out.free 2
    clear q1 q2
    go_wp2
    have HZ:=hid (set3 HX.out (.int .i64 tc.1) (.int .i64 tc.2.1) (.int .i64 tc.2.2))
    exact bodyPost_ret (v:=tv tc) (ids_ret rfl HZ.out Tryz.results79) rfl ⟨rfl,below_set3 HB.out (by omega) _ _ _⟩
theorem index_ids (t:Rg.T) (c:Nat) (hc:c<3) (w:World):(Instr.index 77 (.agg #[.int .i64 t.1,.int .i64 t.2.1,.int .i64 t.2.2]) (.int .i64 c)).run Tryz.prog w=.ok (.int .i64 (Rg.at' t c)) w:=by
 rcases Rg.c3 hc with rfl | rfl | rfl <;> simp [Instr.index,run_underlying Tryz.underlying77,asIntOf,go_sem,Rg.at',Tryz.sizeOf3,Tryz.isAgg3]
end Go.Proofs.YtjaebndajhppgaaGreatDoor
