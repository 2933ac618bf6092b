/-GRg4-/
import Derived.Test.YtjaebndajhppgaaGreatDoorMnGRg1
import Derived.Test.YtjaebndajhppgaaGreatDoorMnGB
import Derived.Shelf.Abstract
import Derived.Deep.DeepCutAuto
import Derived.Sort.Grow
import Derived.Test.YtjaebndajhppgaaGreatDoorMnGRg3
import Derived.Laws.StructEq
set_option linter.unusedVariables false
set_option linter.unusedSimpArgs false
set_option maxRecDepth 100000
set_option maxHeartbeats 1000000
namespace Go.Proofs.YtjaebndajhppgaaGreatDoor.Rg
theorem X7 {l:List T} (hn:l.Nodup) (p:T) (i:Nat) (h:i<l.countP (b_ p).2.2-l.countP (b_ p).2.1):(O l (b_ p).1)[l.countP (b_ p).2.1+i]?=((O l (b_ p).1).filter (mt p))[i]?:=by rw [←WH hn p,List.getElem?_drop,List.getElem?_take_of_lt (by omega)]
theorem mW {l:List T} (p:T):((O l (b_ p).1).filter (mt p)).length=l.countP (b_ p).2.2-l.countP (b_ p).2.1:=by rw [←List.countP_eq_length_filter,(iJ l _).countP_eq];have:=count_eq l p;omega
theorem X8 (t:T):mt (0,0,0) t=true:=by simp [mt]
end Go.Proofs.YtjaebndajhppgaaGreatDoor.Rg
namespace Go.Proofs.YtjaebndajhppgaaGreatDoor
open Go.ChangeShapes Go.WideShapes Go.ChangeAt Go.RowKit
def tl (t:Rg.T):List Value:=[.int .i64 t.1,.int .i64 t.2.1,.int .i64 t.2.2]
def tv (t:Rg.T):Value:=.agg #[.int .i64 t.1,.int .i64 t.2.1,.int .i64 t.2.2]
theorem l7 (t:Rg.T) (i:Nat) (h:i<3):(tl t)[i]?=some (.int .i64 (Rg.at' t i)):=by
 match i,h with
 | 0,_=>rfl
 | 1,_=>rfl
 | 2,_=>rfl
theorem X9 (c:Nat) (hc:c<3) (w:World):Calls Tryz.prog 224 #[.int .i64 c] w fun e w'=>e=.returned (.int .i64 (Rg.nx c:Nat))∧w'=w:=by go_enter Tryz.func224,Tryz.ntmps224;go_wp2;go_ret;rcases Rg.c3 hc with rfl | rfl | rfl <;> exact ⟨rfl,rfl⟩
theorem wQ (c:Nat) (hc:c<3) (w:World):Calls Tryz.prog 114 #[.int .i64 c] w fun e w'=>e=.returned (.int .i64 (Rg.pv c:Nat))∧w'=w:=by go_enter Tryz.func114,Tryz.ntmps114;go_wp2;go_ret;rcases Rg.c3 hc with rfl | rfl | rfl <;> exact ⟨rfl,rfl⟩
theorem X_ (x:Int) (w:World):Calls Tryz.prog 203 #[.int .i64 x] w fun e w'=>e=.returned (.bool false)∧w'=w:=by go_enter Tryz.func203,Tryz.ntmps203;go_wp2;go_ret;exact ⟨by simp,rfl⟩
def ci (x y:Int):Int:=if x<y then -1 else if y<x then 1 else 0
theorem Ya (x y:Int) (w:World):Calls Tryz.prog 169 #[.int .i64 x,.int .i64 y] w fun e w'=>e=.returned (.int .i64 (ci x y))∧w'=w:=by
 go_enter Tryz.func169,Tryz.ntmps169;go_wp2_with (go_at_call 203;refine (X_ _ _).mono ?_;rintro e w' ⟨rfl,rfl⟩)
 all_goals (go_ret;refine ⟨?_,rfl⟩;unfold ci;(repeat' split) <;> first | rfl | (exfalso;omega))
theorem Yb (x y:Rg.T) (b1 b2:Nat) (t1 t2:TypeId) (w:World) (h1:aj w b1 (tl x) t1) (h2:aj w b2 (tl y) t2) :
  Calls Tryz.prog 119 #[.slice (some ⟨b1,0,none⟩) 3 3,.slice (some ⟨b2,0,none⟩) 3 3] w fun e w'=>e=.returned (.int .i64 (Rg.cmp x y))∧w'=w:=by
 have H1:=hid fun i (h:i<3)=>h1.cell (l7 x i h);have H2:=hid fun i (h:i<3)=>h2.cell (l7 y i h);clear h1 h2;go_enter Tryz.func119,Tryz.ntmps119;go_wp2;go_loopw [11] (fun s11 wr=>∃ i:Nat,i≤3∧s11=.int .i64 i∧wr=w∧Hid (∀ j,j<i→Rg.at' x j=Rg.at' y j)) (fun s11 _=>3-(intOf s11).toNat)
 case atStart=>exact ⟨0,by omega,rfl,rfl,fun j hj=>absurd hj (Nat.not_lt_zero _)⟩
 case round=>
  obtain ⟨i,hi,rfl,dx,HE⟩:=hrel;subst dx;by_cases hlt:i<3
  · have c1:=H1.out i hlt;have c2:=H2.out i hlt;have IC:=Ya (Rg.at' x i) (Rg.at' y i) wr;by_cases hc:ci (Rg.at' x i) (Rg.at' y i)=0
    · rw [hc] at IC;have HC:=hid hc;clear hc;(go_wp2_with (go_at_call 169;refine IC.mono ?_;rintro e w' ⟨rfl,rfl⟩));go_roundw
      (case rel=>refine ⟨i+1,by omega,by go_num,trivial,fun j hj=>?_⟩;by_cases hji:j<i;{exact HE.out j hji};{obtain rfl:j=i:=(by omega);have:=HC.out;unfold ci at this;split at this;{omega};{split at this <;> omega}});case measure=>simp [intOf];omega
    {have hr:ci (Rg.at' x i) (Rg.at' y i)=Rg.cmp x y:=(by have he:=HE.out;unfold ci at hc ⊢;unfold Rg.cmp;have e0:=he 0;have e1:=he 1;obtain ⟨x0,x1,x2⟩:=x;obtain ⟨y0,y1,y2⟩:=y;rcases Rg.c3 hlt with rfl | rfl | rfl <;> simp [Rg.at'] at * <;> (repeat' split) <;> first | rfl | omega | (exfalso;omega));have HR:=hid hr;clear hr;generalize ci (Rg.at' x i) (Rg.at' y i)=r at *;(go_wp2_with (go_at_call 169;refine IC.mono ?_;rintro e w' ⟨rfl,rfl⟩));go_ret;exact ⟨by rw [HR.out];rfl,rfl⟩}
  {obtain rfl:i=3:=(by omega);have hr:Rg.cmp x y=0:=(by have he:=HE.out;have e0:=he 0 (by omega);have e1:=he 1 (by omega);have e2:=he 2 (by omega);simp only [Rg.at'] at e0 e1 e2;unfold Rg.cmp;simp at e0 e1 e2;simp [e0,e1,e2]);have HR:=hid hr;clear hr;go_wp2;go_ret;exact ⟨by rw [HR.out];rfl,rfl⟩}
def Dr (w w':World):Prop:=∃ q,w'.drawn=w.drawn+q
theorem Dr.refl (w:World):Dr w w:=⟨0,rfl⟩
theorem Dr.trans {a b c:World} (h:Dr a b) (k:Dr b c):Dr a c:=by obtain ⟨p,hp⟩:=h;obtain ⟨q,hq⟩:=k;exact ⟨p+q,by rw [hq,hp,Nat.add_assoc]⟩
theorem Dr.alloc {a b:World} (h:Dr a b) (o:Obj):Dr a (b.alloc o):=h
theorem Dr.drewN {a b:World} (h:Dr a b) (n:Nat):Dr a (b.drewN n):=by obtain ⟨p,hp⟩:=h;exact ⟨p+n,by show b.drawn+n=_;rw [hp,Nat.add_assoc]⟩
theorem Dr.setCell {a b:World} (h:Dr a b) (x:Addr) (v:Value):Dr a (b.setCell x v):=by obtain ⟨p,hp⟩:=h;exact ⟨p,by rw [←hp];rfl⟩
theorem Mq {fn:Func} {tmps:Array Value} {Z:World} {b k:Nat} {v0 v1 v2:Value} (ht:tmps.getD k undef=.pointer (some ⟨b,0,none⟩)) (hZ:aj Z b [v0,v1,v2] 77) (hf:fn.results=#[.cell k 77]) :
  (results fn tmps).run Tryz.prog Z=.ok (.agg #[v0,v1,v2]) Z:=by
 have h0:=hZ.cell (i:=0) rfl;have h1:=hZ.cell (i:=1) rfl;have h2:=hZ.cell (i:=2) rfl;have ht':tmps[k]?.getD undef=.pointer (some ⟨b,0,none⟩):=by simpa using ht
 simp [results,hf,ht',go_sem,h0,h1,h2]
theorem Ac (w:World) (t:Rg.T):∃ w1,w1=w.alloc (.cells #[.int .i64 t.1,.int .i64 t.2.1,.int .i64 t.2.2] 77)∧Hid (aj w1 w.heap.size (tl t) 77)∧Hid (Below w.heap.size w w1)∧Hid (Dr w w1)∧w1.heap.size=w.heap.size+1:=
 ⟨_,rfl,aj.new w (tl t) 77,(Below.refl _ _).alloc (Nat.le_refl _) _,Dr.alloc (Dr.refl _) _,by simp⟩
theorem jB {w:World} {b:Nat} {t:Rg.T} (h:aj w b (tl t) 77):w.cell? ⟨b,0,none⟩=some (.int .i64 t.1)∧w.cell? ⟨b,1,none⟩=some (.int .i64 t.2.1)∧w.cell? ⟨b,2,none⟩=some (.int .i64 t.2.2):=
 ⟨h.cell rfl,h.cell rfl,h.cell rfl⟩
theorem Eu (w:World) (x y:Rg.T):∃ w1,w1=(w.alloc (.cells #[.int .i64 x.1,.int .i64 x.2.1,.int .i64 x.2.2] 77)).alloc (.cells #[.int .i64 y.1,.int .i64 y.2.1,.int .i64 y.2.2] 77)∧Hid (aj w1 w.heap.size (tl x) 77)∧Hid (aj w1 (w.heap.size+1) (tl y) 77)∧Hid (Below w.heap.size w w1)∧Hid (Dr w w1):=by refine ⟨_,rfl,(aj.new w (tl x) 77).alloc _,aj.new' (by simp) rfl,((Below.refl _ _).alloc (Nat.le_refl _) _).alloc (by simp) _,Dr.alloc (Dr.alloc (Dr.refl _) _) _⟩
theorem Ev (x y:Rg.T) (w:World):Calls Tryz.prog 81 #[tv x,tv y] w fun e w'=>e=.returned (.int .i64 (Rg.cmp x y))∧Below w.heap.size w w'∧Dr w w':=by
 unfold tv;go_enter Tryz.func81,Tryz.ntmps81;go_upto_region 1 with fail
 obtain ⟨w1,hw1,HX,HY,HB,HD⟩:=Eu w x y;rw [←hw1];clear hw1;have SC:=hid fun q=>Yb x y w.heap.size (w.heap.size+1) 77 77 (w1.drewN q) (HX.out.drewN q) (HY.out.drewN q);go_quiet ((go_at_call 119;exact lV fun W hW=>by rw [hW];exact SC.out _))
 go_wp2;go_ret;exact ⟨rfl,aX HB.out _,HD.out.drewN _⟩
theorem Mr (t:Rg.T) (c:Nat) (hc:c<3) (w:World):Calls Tryz.prog 182 #[tv t,.int .i64 c] w fun e w'=>e=.returned (tv (Rg.gI c t))∧Below w.heap.size w w'∧Dr w w':=by
 unfold tv;have BH:=hid fun W=>X9 c hc W;have AH:=hid fun W=>wQ c hc W;go_enter Tryz.func182,Tryz.ntmps182;go_upto_region 1 with fail
 obtain ⟨w1,hw1,HX,HY,HB,HD⟩:=Eu w t (0,0,0);rw [show (w.alloc (.cells #[.int .i64 t.1,.int .i64 t.2.1,.int .i64 t.2.2] 77)).alloc (.cells #[.int .i64 0,.int .i64 0,.int .i64 0] 77)=w1 from hw1.symm];clear hw1;have c0:=HX.out.cell (l7 t c hc);have c1:=HX.out.cell (l7 t (Rg.nx c) (Nat.mod_lt _ (by decide)));have c2:=HX.out.cell (l7 t (Rg.pv c) (Rg.lX c));have hnx:Rg.nx c<3:=Nat.mod_lt _ (by decide);have hpv:Rg.pv c<3:=Rg.lX c;refine yY 12 (by kernel_rfl) (by kernel_rfl) ?_;simp only [List.take_succ_cons,List.take_zero,List.drop_succ_cons,List.drop_zero];repeat (go_big_quiet_step (first | (go_at_call 224;exact lV fun W hW=>BH.out W) | (go_at_call 114;exact lV fun W hW=>AH.out W)))
 refine wpQuiet_nil ?_;rintro _ ⟨nq,rfl⟩;obtain ⟨W,hW⟩:∃ W,W=w1.drewN nq:=⟨_,rfl⟩;rw [←hW];have kH:aj W (w.heap.size+1) (tl (0,0,0)) 77:=by rw [hW];exact HY.out.drewN nq
 have HB2:=hid (show Below w.heap.size w W by rw [hW];exact aX HB.out nq);have HD2:=hid (show Dr w W by rw [hW];exact HD.out.drewN nq);have d0:=kH.cell (i:=0) rfl;have d1:=kH.cell (i:=1) rfl;have d2:=kH.cell (i:=2) rfl;have f0:=kH.free 0;have f1:=kH.free 1;have f2:=kH.free 2;have lC:=hid kH;clear hW c0 c1 c2 kH;go_wp2;have HZ:=hid (((lC.out.set 0 (.int .i64 (Rg.at' t c))).set 1 (.int .i64 (Rg.at' t (Rg.nx c)))).set 2 (.int .i64 (Rg.at' t (Rg.pv c))));exact bodyPost_ret (v:=.agg #[.int .i64 (Rg.at' t c),.int .i64 (Rg.at' t (Rg.nx c)),.int .i64 (Rg.at' t (Rg.pv c))]) (Mq rfl HZ.out Tryz.results182) rfl ⟨rfl,((HB2.out.setCell (by simp) _).setCell (by simp) _).setCell (by simp) _,((HD2.out.setCell _ _).setCell _ _).setCell _ _⟩
structure dF (w:World) where
 it:World
 low:Below w.heap.size w it
 dr:Dr w it
instance {w:World}:Nonempty (dF w):=⟨⟨w,Below.refl _ w,Dr.refl w⟩⟩
theorem Ad {P:Program} {id:Nat} {Q:Exit→Act→World→Prop} {a:Act} {w:World} {l:List Oper} (hm:P.follows .mixedOrders=true) (hB:Region.lexB .any l.toArray=true)
  (h:wpQuiet P l.toArray (fun w'=>∃ p:dF w,w'=p.it) (fun a'=>∀ w',(∃ p:dF w,w'=p.it)→Q .normal a' w') l a):(Code.region id l.toArray true).wp P Q a w:=
 wp_region_quiet (C:=fun w'=>∃ p:dF w,w'=p.it) hm hB ⟨⟨_,(Below.refl _ w).drew,⟨1,rfl⟩⟩,rfl⟩ (by simpa using h)
theorem dF.call {P:Program} {f:FuncId} {args:Array Value} {w:World} {p:dF w} {v:Value}
  (h:Calls P f args p.it fun e w'=>e=.returned v∧Below p.it.heap.size p.it w'∧Dr p.it w'):Calls P f args p.it fun e w''=>e=.returned v∧∃ q:dF w,w''=q.it:=
 h.mono fun _ _ ⟨he,hb,hd⟩=>⟨he,⟨_,aA p.low hb,p.dr.trans hd⟩,rfl⟩
theorem dF.keep {w:World} (p:dF w) {b o:Nat} {v:Value} (hc:w.cell? ⟨b,o,none⟩=some v):p.it.cell? ⟨b,o,none⟩=some v:=ak p.low hc
theorem Ew {w w':World} (h:Below w.heap.size w w') (d:Dr w w'):∃ q os,w'=Go.Sort.grow (w.drewN q) os:=by
 obtain ⟨q,hq⟩:=d;refine ⟨q,w'.heap.extract w.heap.size w'.heap.size,?_⟩;have hh:w'.heap=w.heap++w'.heap.extract w.heap.size w'.heap.size:=by apply Array.ext_getElem?;intro k;rw [Array.getElem?_append];split;{rename_i hk;exact h.block k hk};{rename_i hk;rw [Array.getElem?_extract];have hs:=h.size;by_cases hk2:k<w'.heap.size;{rw [if_pos (by omega),show w.heap.size+(k-w.heap.size)=k by omega]};{rw [if_neg (by omega),Array.getElem?_eq_none (by omega)]}}
 obtain ⟨h1,h2,h3,h4,h5⟩:=w';have e1:=h.tape;have e2:=h.os;have e3:=h.output;simp only at e1 e2 e3 hq hh;subst e1 e2 e3 hq;unfold Go.Sort.grow World.drewN;simp only [World.mk.injEq,and_true,true_and];exact hh
theorem Yc (x y:Rg.T) (c bc:Nat) (hc:c<3) (w:World) (hb:w.cell? ⟨bc,0,none⟩=some (.int .i64 c)) :
  Calls Tryz.prog 181 #[tv x,tv y,.pointer (some ⟨bc,0,none⟩)] w fun e w'=>e=.returned (.int .i64 (Rg.cf c x y))∧Below w.heap.size w w'∧Dr w w':=by
 unfold tv;go_enter Tryz.func181,Tryz.ntmps181;go_upto_region 1 with fail
 obtain ⟨w1,hw1,HX,HY,HB,HD⟩:=Eu w x y;rw [←hw1];clear hw1;have g0:=fun q:dF w1=>q.keep (ak HB.out hb);have g1:=fun q:dF w1=>q.keep (jB HX.out).1;have g2:=fun q:dF w1=>q.keep (jB HX.out).2.1;have g3:=fun q:dF w1=>q.keep (jB HX.out).2.2;have g4:=fun q:dF w1=>q.keep (jB HY.out).1;have g5:=fun q:dF w1=>q.keep (jB HY.out).2.1;have g6:=fun q:dF w1=>q.keep (jB HY.out).2.2;have T1:=hid fun q:dF w1=>Mr x c hc q.it;have T2:=hid fun q:dF w1=>Mr y c hc q.it;have CM:=hid fun q:dF w1=>Ev (Rg.gI c x) (Rg.gI c y) q.it;unfold tv at T1 T2 CM;have hcf:Rg.cmp (Rg.gI c x) (Rg.gI c y)=Rg.cf c x y:=rfl;rw [hcf] at CM;generalize Rg.gI c x=rx at *;generalize Rg.gI c y=ry at *;obtain ⟨r,hr⟩:∃ r,r=Rg.cf c x y:=⟨_,rfl⟩;rw [←hr] at CM;have HR:=hid hr;clear hb HX HY hr;refine Ad (by kernel_rfl) (by kernel_rfl) ?_;repeat (go_big_quiet_step (first | (go_at_call 182;with_reducible exact dF.call (T1.out _)) | (go_at_call 182;with_reducible exact dF.call (T2.out _)) | (go_at_call 81;with_reducible exact dF.call (CM.out _))))
 refine wpQuiet_nil ?_;rintro _ ⟨q,rfl⟩;go_wp2;go_ret;exact ⟨by rw [←HR.out];rfl,aA HB.out q.low,HD.out.trans q.dr⟩
def jC (w:World) (p:Nat) (l:List Rg.T):Prop:=l.Pairwise Rg.lt∧(∀ t∈l,Rg.Ok t)∧l.length≤100∧∃ pw:Nat→Nat,∀ c,c<3→w.cell? ⟨p,c,none⟩=some (.pointer (some ⟨pw c,0,none⟩))∧jA w (pw c) (Rg.A l c) 10
theorem jC.keep {w w':World} {p:Nat} {l:List Rg.T} (h:jC w p l) (hb:Below w.heap.size w w'):jC w' p l:=by obtain ⟨h1,h2,h3,pw,h4⟩:=h;exact ⟨h1,h2,h3,pw,fun c hc=>⟨ak hb (h4 c hc).1,(h4 c hc).2.keep hb⟩⟩
theorem jC.nodup {w:World} {p:Nat} {l:List Rg.T} (h:jC w p l):l.Nodup:=h.1.imp fun {a b} hab=>by intro e;subst e;exact Rg.lt_irrefl _ hab
theorem Ms (p wd:Nat) (l:List Nat) (w:World) (h:jA w p l wd):Calls Tryz.prog 77 #[.pointer (some ⟨p,0,none⟩)] w fun e w'=>e=.returned (.int .i64 l.length)∧w'=w:=by obtain ⟨_,_,_,ad,cap,c0,_⟩:=h;exact Ec p _ w c0
theorem Yd (p:Nat) (l:List Rg.T) (w:World) (h:jC w p l):Calls Tryz.prog 37 #[.pointer (some ⟨p,0,none⟩)] w fun e w'=>e=.returned (.int .i64 l.length)∧w'=w:=by
 obtain ⟨_,_,_,pw,h4⟩:=h;have c0:=(h4 0 (by omega)).1;have WL:=Ms (pw 0) 10 _ w (h4 0 (by omega)).2;rw [Rg.tF] at WL;clear h4;go_enter Tryz.func37,Tryz.ntmps37;go_wp2_with (go_at_call 77;refine WL.mono ?_;rintro e w' ⟨rfl,rfl⟩)
 go_ret;exact ⟨rfl,rfl⟩
theorem Ae (p c:Nat) (l:List Rg.T) (P:Rg.T→Bool) (v:Int) (w:World) (h:jC w p l) (hc:c<3) (hP:Rg.Lower c P) (hv:-9223372036854775808≤v) :
  Calls Tryz.prog 115 #[.pointer (some ⟨p,0,none⟩),.int .i64 c,.int .i64 (l.countP P:Nat),.int .i64 v] w fun e w'=>e=.returned (.int .i64 (l.countP (Rg.gB c v P):Nat))∧Below w.heap.size w w':=by
 have hnd:=h.nodup;obtain ⟨h1,h2,h3,pw,h4⟩:=h;obtain ⟨c0,hw⟩:=h4 c hc;have hs:=Rg.step_eq hc hnd h2 hP v;have hcp:l.countP P≤l.length:=List.countP_le_length;have hcp2:l.countP (Rg.gB c v P)≤l.length:=List.countP_le_length;have hal:=Rg.tF l c;have WL:=hid fun W (hb:Below w.heap.size w W)=>Ms (pw c) 10 _ W (hw.keep hb);have WC:=hid fun W (hb:Below w.heap.size w W)=>LA (pw c) 10 _ 0 l.length v 1000 W (hw.keep hb) (by omega);have WR:=hid fun W (hb:Below w.heap.size w W)=>Xx (pw c) 10 _ v (l.countP P:Nat) W (hw.keep hb) hv;rw [Wv.Wu,hal] at WC WR;rw [hal] at WL;have e1:Wv.iV l.length (l.length:Int)=l.length:=by unfold Wv.iV;omega
 have e2:Wv.iV l.length ((l.countP P:Nat):Int)=l.countP P:=by unfold Wv.iV;omega
 rw [e1] at WC;rw [e2] at WR;have e3:(Rg.A l c).take l.length=Rg.A l c:=by rw [←hal,List.take_length]
 rw [e3] at WC;have k1:=Wv.KW (Rg.A l c) v 1000;have k2:=Wv.KW ((Rg.A l c).take (l.countP P)) v v;rw [hal] at k1;rw [List.length_take] at k2;have hs2:(l.length:Int)-(Wv.jU (Rg.A l c) v 1000:Nat)+(Wv.jU ((Rg.A l c).take (l.countP P)) v v:Nat)=(l.countP (Rg.gB c v P):Nat):=hs;generalize Wv.jU (Rg.A l c) v 1000=x1 at *;generalize Wv.jU ((Rg.A l c).take (l.countP P)) v v=x2 at *;generalize l.countP (Rg.gB c v P)=r at *;generalize l.countP P=i at *;have HS:=hid hs2;clear h1 h2 h4 hs hs2 hw e1 e2 e3 hP hal hnd;go_enter Tryz.func115,Tryz.ntmps115;go_upto_region 2 with fail
 have Ye:=WL.out w (Below.refl _ _);have Yf:=WC.out w (Below.refl _ _);go_wp2_with (first | (go_at_call 77;refine Ye.mono ?_;rintro e w' ⟨rfl,rfl⟩) | (go_at_call 154;refine Yf.mono ?_;rintro e w2 ⟨rfl,hb2⟩))
 go_wp2_with ((go_at_call 155;refine (WR.out w2 hb2).mono ?_;rintro e w3 ⟨rfl,hb3⟩))
 go_ret;exact ⟨by rw [HS.out];rfl,aA hb2 hb3⟩
theorem Yg (t:Rg.T) (w:World):Calls Tryz.prog 113 #[tv t] w fun e w'=>e=.returned (.int .i64 (Rg.start t:Nat))∧Below w.heap.size w w':=by
 unfold tv;have AH:=hid fun c hc W=>wQ c hc W;go_enter Tryz.func113,Tryz.ntmps113;go_upto_region 1 with fail
 obtain ⟨w1,hw1,HX,HB,HD,hz⟩:=Ac w t;rw [←hw1];clear hw1;go_wp2;go_loopw [4] (fun s4 wr=>∃ i:Nat,i≤3∧s4=.int .i64 i∧wr=w1∧Hid (∀ j,j<i→¬ (Rg.at' t j=0∧Rg.at' t (Rg.pv j)≠0))) (fun s4 _=>3-(intOf s4).toNat)
 case atStart=>exact ⟨0,by omega,rfl,rfl,fun j hj=>absurd hj (Nat.not_lt_zero _)⟩
 case round=>
  obtain ⟨i,hi,rfl,dx,HE⟩:=hrel;subst dx;by_cases hlt:i<3
  · have hpv:=Rg.lX i;have c0:=HX.out.cell (l7 t i hlt);have c1:=HX.out.cell (l7 t (Rg.pv i) hpv);by_cases h0:Rg.at' t i=0
    · rw [h0] at c0;by_cases h1:Rg.at' t (Rg.pv i)=0
      · rw [h1] at c1;have H1:=hid h1;clear h0 h1;(go_wp2_with (go_at_call 114;refine (AH.out _ hlt _).mono ?_;rintro e w' ⟨rfl,rfl⟩));go_roundw
        (case rel=>refine ⟨i+1,by omega,by go_num,trivial,fun j hj=>?_⟩;by_cases hji:j<i;{exact HE.out j hji};{obtain rfl:j=i:=(by omega);intro h;exact h.2 H1.out});case measure=>simp [intOf];omega
      {have H0:=hid h0;have H1:=hid h1;clear h0;(go_wp2_with (go_at_call 114;refine (AH.out _ hlt _).mono ?_;rintro e w' ⟨rfl,rfl⟩));go_ret;refine ⟨?_,HB.out⟩;have he:=HE.out;have hs:Rg.start t=i:=(by have a0:=H0.out;have a1:=H1.out;have b0:=he 0;have b1:=he 1;unfold Rg.start;rcases Rg.c3 hlt with rfl | rfl | rfl <;> simp [Rg.at',Rg.pv] at a0 a1 b0 b1 ⊢ <;> (repeat' split) <;> first | rfl | omega);rw [hs];rfl}
    · have H0:=hid h0;(go_wp2_with (go_at_call 114;refine (AH.out _ hlt _).mono ?_;rintro e w' ⟨rfl,rfl⟩));go_roundw
      (case rel=>refine ⟨i+1,by omega,by go_num,trivial,fun j hj=>?_⟩;by_cases hji:j<i;{exact HE.out j hji};{obtain rfl:j=i:=(by omega);intro h;exact H0.out h.1});case measure=>simp [intOf];omega
  {obtain rfl:i=3:=(by omega);have hs:Rg.start t=0:=(by have b0:=HE.out 0 (by omega);have b1:=HE.out 1 (by omega);have b2:=HE.out 2 (by omega);unfold Rg.start;simp [Rg.at',Rg.pv] at b0 b1 b2 ⊢;(repeat' split) <;> first | rfl | omega);have HS:=hid hs;clear hs;go_wp2;go_ret;exact ⟨by rw [HS.out];rfl,HB.out⟩}
theorem tO (w:World) (a b c:Value) (t:TypeId):∃ w1,w1=w.alloc (.cells #[a,b,c] t)∧Hid (aj w1 w.heap.size [a,b,c] t)∧Hid (Below w.heap.size w w1):=
 ⟨_,rfl,aj.new w [a,b,c] t,(Below.refl _ _).alloc (Nat.le_refl _) _⟩
theorem Af {w:World} {b:Nat} {x y z:Value} {t:TypeId} (h:aj w b [x,y,z] t) (v0 v1 v2:Value):aj (((w.setCell ⟨b,0,none⟩ v0).setCell ⟨b,1,none⟩ v1).setCell ⟨b,2,none⟩ v2) b [v0,v1,v2] t:=((h.set 0 v0).set 1 v1).set 2 v2
theorem Ag {w X:World} {b:Nat} (h:Below w.heap.size w X) (hb:w.heap.size≤b) (v0 v1 v2:Value):Below w.heap.size w (((X.setCell ⟨b,0,none⟩ v0).setCell ⟨b,1,none⟩ v1).setCell ⟨b,2,none⟩ v2):=((h.setCell hb _).setCell hb _).setCell hb _
theorem Mt {X:World} {b q:Nat} {A:List Value} {t:TypeId} (h:aj X q A t) (hb:q≠b) (v0 v1 v2:Value):aj (((X.setCell ⟨b,0,none⟩ v0).setCell ⟨b,1,none⟩ v1).setCell ⟨b,2,none⟩ v2) q A t:=((h.other hb 0 v0).other hb 1 v1).other hb 2 v2
theorem Mv {fn:Func} {tmps:Array Value} {Z:World} {b k:Nat} {v0 v1 v2:Value} (ht:tmps.getD k undef=.pointer (some ⟨b,0,none⟩)) (hZ:aj Z b [v0,v1,v2] 131) (hf:fn.results=#[.cell k 131]) :
  (results fn tmps).run Tryz.prog Z=.ok (.agg #[v0,v1,v2]) Z:=by
 have h0:=hZ.cell (i:=0) rfl;have h1:=hZ.cell (i:=1) rfl;have h2:=hZ.cell (i:=2) rfl;have ht':tmps[k]?.getD undef=.pointer (some ⟨b,0,none⟩):=by simpa using ht
 simp [results,hf,ht',go_sem,h0,h1,h2]
def fv (l:List Rg.T) (r:Nat×(Rg.T→Bool)×(Rg.T→Bool)):Value:=.agg #[.int .i64 r.1,.int .i64 (l.countP r.2.1:Nat),.int .i64 (l.countP r.2.2:Nat)]
theorem Yh (p:Nat) (l:List Rg.T) (t:Rg.T) (w:World) (h:jC w p l) (ht:∀ c,c<3→-9223372036854775808≤Rg.at' t c) :
  Calls Tryz.prog 78 #[.pointer (some ⟨p,0,none⟩),tv t] w fun e w'=>e=.returned (fv l (Rg.b_ t))∧Below w.heap.size w w':=by
 have AH:=hid fun c hc W=>wQ c hc W;have BG:=hid fun W=>Yg t W;have HR:=hid h;have HT:=hid ht;have ST:=hid (Rg.start_lt t);clear h ht;unfold tv at *;go_enter Tryz.func78,Tryz.ntmps78;go_upto_region 1 with fail
 obtain ⟨w1,hw1,HX,HB,HD,hz⟩:=Ac w t;rw [←hw1];clear hw1;obtain ⟨w2,hw2,HY,HB2⟩:=tO w1 (.int .i64 0) (.int .i64 0) (.int .i64 0) 131;rw [hz] at HY;rw [←hw2];have c0:=(jB (HX.out.keep HB2.out)).1;have c1:=(jB (HX.out.keep HB2.out)).2.1;have c2:=(jB (HX.out.keep HB2.out)).2.2;have hz2:w2.heap.size=w.heap.size+1+1:=by rw [hw2];simp [hz]
 clear hw2;go_upto_region 2 with (go_at_call 113;refine (BG.out _).mono ?_;rintro e w3 ⟨rfl,hb3⟩)
 have RL:=Yd p l w3 (HR.out.keep (aA (aA HB.out HB2.out) hb3));have aI:=hid (aA (aA HB.out HB2.out) hb3);have Mw:=hid ((HX.out.keep HB2.out).keep hb3);have nV:=hid (HY.out.keep hb3);have pO:=hb3.size;have HL:=hid (show l.length≤100 from HR.out.2.2.1);clear HX HY HB HB2 HD hb3 BG c0 c1 c2;go_upto_region 3 with (go_at_call 37;refine RL.mono ?_;rintro e w4 ⟨rfl,rfl⟩)
 have hle:=aI.out.size;obtain ⟨w5,bQ,Yi,aH⟩:=tO w4 (.int .i64 (Rg.start t:Nat)) (.int .i64 0) (.int .i64 l.length) 131;rw [←bQ];have Yj:=hid (Mw.out.keep aH.out);have Yk:=hid (nV.out.keep aH.out);have aP:=hid (aA aI.out aH.out);clear bQ Mw nV aI RL;go_wp2;go_loopw [13,5] (fun s13 s5 wr=>∃ (k c:Nat) (P Q:Rg.T→Bool),k≤3∧c<3∧s13=.int .i64 k∧s5=.int .i64 c∧Hid (Below w.heap.size w wr)∧Hid (aj wr w.heap.size (tl t) 77)∧Hid (aj wr (w.heap.size+1) [.int .i64 0,.int .i64 0,.int .i64 0] 131) ∧
   Hid (aj wr w4.heap.size [.int .i64 c,.int .i64 (l.countP P:Nat),.int .i64 (l.countP Q:Nat)] 131)∧Hid (Rg.way t (3-k) c P Q=Rg.b_ t)∧Hid (Rg.Lower c P)∧Hid (Rg.Lower c Q)) (fun s13 s5 _=>3-(intOf s13).toNat)
 case atStart=>
  refine ⟨0,Rg.start t,(fun _=>false),(fun _=>true),by omega,ST.out,rfl,rfl,aP.out,Yj.out,Yk.out,?_,rfl,fun _ _ _ h=>h,fun _ _ _ h=>h⟩;have e1:l.countP (fun _=>false)=0:=by simp
  have e2:l.countP (fun _=>true)=l.length:=by simp
  rw [e1,e2];exact Yi.out
 case round=>
  obtain ⟨k,c,P,Q,hk,hc,rfl,rfl,HB,HX,HY,HF,HW,HP,HQ⟩:=hrel;have hcl:=HL.out;have q1:l.countP P≤l.length:=List.countP_le_length;have q2:l.countP Q≤l.length:=List.countP_le_length;by_cases hlt:k<3
  · have hpv:=Rg.lX c;have c0:=HX.out.cell (l7 t (Rg.pv c) hpv);by_cases h0:Rg.at' t (Rg.pv c)=0;{rw [h0] at c0;have hw:Rg.b_ t=(c,P,Q):=(by rw [←HW.out,show 3-k=(3-k-1)+1 by omega];unfold Rg.way;rw [if_pos h0]);have Ah:=hid hw;have d0:=HF.out.cell (i:=0) rfl;have d1:=HF.out.cell (i:=1) rfl;have d2:=HF.out.cell (i:=2) rfl;have r0:=HY.out.cell (i:=0) rfl;have r1:=HY.out.cell (i:=1) rfl;have r2:=HY.out.cell (i:=2) rfl;have s0:=HY.out.free 0;have s1:=HY.out.free 1;have s2:=HY.out.free 2;clear h0 hw;(go_wp2_with (go_at_call 114;refine (AH.out _ hc _).mono ?_;rintro e w' ⟨rfl,rfl⟩));have HZ:=hid (Af HY.out (.int .i64 c) (.int .i64 (l.countP P:Nat)) (.int .i64 (l.countP Q:Nat)));exact bodyPost_ret (v:=fv l (c,P,Q)) (Mv rfl HZ.out Tryz.results78) rfl ⟨by rw [Ah.out],Ag HB.out (by omega) _ _ _⟩}
    · have hv:=HT.out (Rg.pv c) hpv;obtain ⟨x,hx⟩:∃ x,x=Rg.at' t (Rg.pv c):=⟨_,rfl⟩;rw [←hx] at c0 h0 hv;have d0:=HF.out.cell (i:=0) rfl;have d1:=HF.out.cell (i:=1) rfl;have d2:=HF.out.cell (i:=2) rfl;have wR:=HR.out.keep HB.out;have S1:=hid fun q:Later wr.heap.size wr=>Ae p c l P x q.it (wR.keep q.low) hc HP.out hv;have S2:=hid fun q:Later wr.heap.size wr=>Ae p c l Q x q.it (wR.keep q.low) hc HQ.out hv;have g0:=fun q:Later wr.heap.size wr=>q.keep c0;have g1:=fun q:Later wr.heap.size wr=>q.keep d0;have g2:=fun q:Later wr.heap.size wr=>q.keep d1;have g3:=fun q:Later wr.heap.size wr=>q.keep d2;have hnw:Rg.way t (3-(k+1)) (Rg.pv c) (Rg.gB c x P) (Rg.gB c x Q)=Rg.b_ t:=by
       rw [←HW.out,show 3-k=(3-(k+1))+1 by omega];conv=>rhs;unfold Rg.way
       rw [←hx,if_neg h0]
      have Yl:=hid hnw;have jZ:=hid (Rg.zM hc x HP.out);have Ym:=hid (Rg.zM hc x HQ.out);obtain ⟨n1,hn1⟩:∃ n1,n1=l.countP (Rg.gB c x P):=⟨_,rfl⟩;obtain ⟨n2,hn2⟩:∃ n2,n2=l.countP (Rg.gB c x Q):=⟨_,rfl⟩;rw [←hn1] at S1;rw [←hn2] at S2;have tQ:=hid hn1;have qY:=hid hn2;clear hx wR hnw hn1 hn2 HW;(go_upto_region 6 with (go_at_call 114;refine (AH.out _ hc _).mono ?_;rintro e w' ⟨rfl,dx⟩;have hw2:=dx.symm;subst hw2));refine Jg 21 wr.heap.size (by kernel_rfl) (by kernel_rfl) ?_;simp only [List.take_succ_cons,List.take_zero,List.drop_succ_cons,List.drop_zero];(repeat (go_big_quiet_step (first | (go_at_call 114;with_reducible exact Later.Si (AH.out _ hc _)) | (go_at_call 115;with_reducible exact Later.call (Nat.le_refl _) (S1.out _)) | (go_at_call 115;with_reducible exact Later.call (Nat.le_refl _) (S2.out _)))));refine wpQuiet_nil ?_;rintro wq ⟨q,hq⟩;have hlow:Below wr.heap.size wr wq:=(by rw [hq];exact q.low);have qZ:=hid (HF.out.keep hlow);have Mx:=hid (HX.out.keep hlow);have Yn:=hid (HY.out.keep hlow);have f_:=hid (aA HB.out hlow);have k0:=qZ.out.cell (i:=0) rfl;have k1:=qZ.out.cell (i:=1) rfl;have k2:=qZ.out.cell (i:=2) rfl;have s0:=qZ.out.free 0;have s1:=qZ.out.free 1;have s2:=qZ.out.free 2;have agi:=Mx.out.lt;clear g0 g1 g2 g3 d0 d1 d2 c0 S1 S2 hq q hlow;(go_upto_region 7 with fail);(go_wp2_with (go_at_call 114;refine (AH.out _ hc _).mono ?_;rintro e w' ⟨rfl,rfl⟩));go_roundw
      (case rel=>refine ⟨k+1,Rg.pv c,Rg.gB c x P,Rg.gB c x Q,by omega,hpv,by go_num,rfl,hid (Ag f_.out (by omega) _ _ _),hid (Mt Mx.out (by omega) _ _ _),hid (Mt Yn.out (by omega) _ _ _),hid ?_,Yl,jZ,Ym⟩;rw [←tQ.out,←qY.out];exact Af qZ.out _ _ _);case measure=>simp [intOf];omega
  {obtain rfl:k=3:=(by omega);have hw:Rg.b_ t=(c,P,Q):=(by rw [←HW.out];rfl);have Ah:=hid hw;have d0:=HF.out.cell (i:=0) rfl;have d1:=HF.out.cell (i:=1) rfl;have d2:=HF.out.cell (i:=2) rfl;have r0:=HY.out.cell (i:=0) rfl;have r1:=HY.out.cell (i:=1) rfl;have r2:=HY.out.cell (i:=2) rfl;have s0:=HY.out.free 0;have s1:=HY.out.free 1;have s2:=HY.out.free 2;clear hw;go_wp2;have HZ:=hid (Af HY.out (.int .i64 c) (.int .i64 (l.countP P:Nat)) (.int .i64 (l.countP Q:Nat)));exact bodyPost_ret (v:=fv l (c,P,Q)) (Mv rfl HZ.out Tryz.results78) rfl ⟨by rw [Ah.out],Ag HB.out (by omega) _ _ _⟩}
def Ey (t:Rg.T) (d:Nat) (v:Int):Rg.T:=if d=0 then (v,t.2.1,t.2.2) else if d=1 then (t.1,v,t.2.2) else (t.1,t.2.1,v)
theorem Yo (t:Rg.T) (d:Nat) (v:Int) (h:d<3):(tl t).set d (.int .i64 v)=tl (Ey t d v):=by rcases Rg.c3 h with rfl | rfl | rfl <;> rfl
theorem at_set (t:Rg.T) (d e:Nat) (v:Int) (h:d<3) (k:e<3):Rg.at' (Ey t d v) e=if e=d then v else Rg.at' t e:=by rcases Rg.c3 h with rfl | rfl | rfl <;> rcases Rg.c3 k with rfl | rfl | rfl <;> rfl
theorem Yp {a b:Rg.T} (h:∀ d,d<3→Rg.at' a d=Rg.at' b d):a=b:=Rg.ext (h 0 (by omega)) (h 1 (by omega)) (h 2 (by omega))
def dK (c k:Nat):Nat:=(c+2*k) % 3
theorem Ez (c k:Nat):dK c k<3:=Nat.mod_lt _ (by decide)
theorem MC (c:Nat) (h:c<3):dK c 0=c:=by unfold dK;omega
theorem ME (c k:Nat):Rg.pv (dK c k)=dK c (k+1):=by unfold dK Rg.pv;omega
theorem Yq {l:List Rg.T} {c i:Nat} {t:Rg.T} (h:(Rg.O l c)[i]?=some t) (ht:Rg.Ok t):(((Rg.A l c).getD i 0:Nat):Int)=Rg.at' t (Rg.pv c):=by unfold Rg.A;rw [List.getD,List.getElem?_map,h];have:=ht (Rg.pv c) (Rg.lX c);simp;omega
theorem Yr (w:World):∃ w1,w1=(w.alloc (.cells #[.int .i64 0,.int .i64 0,.int .i64 0] 77)).alloc (.cells #[.int .i64 0,.int .i64 0,.int .i64 0] 77)∧Hid (aj w1 w.heap.size (tl (0,0,0)) 77)∧Hid (aj w1 (w.heap.size+1) (tl (0,0,0)) 77)∧Hid (Below w.heap.size w w1):=
 ⟨_,rfl,(aj.new w (tl (0,0,0)) 77).alloc _,aj.new' (by simp) rfl,((Below.refl _ _).alloc (Nat.le_refl _) _).alloc (by simp) _⟩
theorem Yt (p c i:Nat) (l:List Rg.T) (t:Rg.T) (w:World) (h:jC w p l) (hc:c<3) (hi:(Rg.O l c)[i]?=some t) :
  Calls Tryz.prog 79 #[.pointer (some ⟨p,0,none⟩),.int .i64 c,.int .i64 i] w fun e w'=>e=.returned (tv t)∧Below w.heap.size w w':=by
 have hil:i<l.length:=by have:=(List.getElem?_eq_some_iff.1 hi).1;rwa [Rg.kD] at this
 obtain ⟨hidx,hmem⟩:=Rg.Wy hc h.nodup hil hi;have HR:=hid h;have HM:=hid hmem;have nW:=hid h.nodup;have iM:=hid (h.2.1 t hmem);have HL:=hid (show l.length≤100 from h.2.2.1);have AH:=hid fun c hc W=>wQ c hc W;have HI:=hid hidx;clear h hmem hi hidx;go_enter Tryz.func79,Tryz.ntmps79;go_upto_region 2 with fail
 obtain ⟨w1,hw1,HX,HY,HB⟩:=Yr w;rw [show (w.alloc (.cells #[.int .i64 0,.int .i64 0,.int .i64 0] 77)).alloc (.cells #[.int .i64 0,.int .i64 0,.int .i64 0] 77)=w1 from hw1.symm];clear hw1;go_wp2;go_loopw [9,1,2] (fun s9 s1 s2 wr=>∃ (k:Nat) (tc:Rg.T),k≤3∧s9=.int .i64 k∧s1=.int .i64 (dK c k:Nat)∧s2=.int .i64 (l.countP (fun s=>decide (Rg.gy (dK c k) s t)):Nat)∧Hid (Below w.heap.size w wr)∧Hid (aj wr w.heap.size (tl (0,0,0)) 77)∧Hid (aj wr (w.heap.size+1) (tl tc) 77)∧Hid (∀ j,1≤j→j≤k→Rg.at' tc (dK c j)=Rg.at' t (dK c j))) (fun s9 _ _ _=>3-(intOf s9).toNat)
 case atStart=>refine ⟨0,(0,0,0),by omega,rfl,by rw [MC c hc],?_,HB.out,HX.out,HY.out,fun j h1 h2=>by omega⟩;rw [MC c hc,HI.out]
 case round=>
  obtain ⟨k,tc,hk,rfl,rfl,rfl,HB,HX,HY,HD⟩:=hrel;have hcl:=HL.out;have hck:=Ez c k;obtain ⟨q1,q2⟩:=Rg.Wx hck nW.out HM.out;by_cases hlt:k<3
  · have wR:=HR.out.keep HB.out;obtain ⟨_,_,_,pw,h4⟩:=wR;obtain ⟨c0,hwv⟩:=h4 _ hck;have ha:=Yq q2 iM.out;have hst:=Ae p (dK c k) l (fun s=>decide (Rg.gy (dK c k) s t)) (Rg.at' t (Rg.pv (dK c k))) wr;have hP:Rg.gB (dK c k) (Rg.at' t (Rg.pv (dK c k))) (fun s=>decide (Rg.gy (dK c k) s t))=fun s=>decide (Rg.gy (Rg.pv (dK c k)) s t):=funext fun s=>Rg.WB hck s t;have hv:=iM.out (Rg.pv (dK c k)) (Rg.lX _);have WA:=Xy (pw (dK c k)) 10 (l.countP (fun s=>decide (Rg.gy (dK c k) s t))) (Rg.A l (dK c k)) wr hwv (by rw [Rg.tF];exact q1);rw [ha] at WA;have ST:=hid fun W (hb:Below wr.heap.size wr W)=>Ae p (dK c k) l (fun s=>decide (Rg.gy (dK c k) s t)) (Rg.at' t (Rg.pv (dK c k))) W ((HR.out.keep HB.out).keep hb) hck (Rg.Wz t) (by omega);rw [hP] at ST;have hd:=Ez c (k+1);rw [ME] at WA ST hv;obtain ⟨x,hx⟩:∃ x,x=Rg.at' t (dK c (k+1)):=⟨_,rfl⟩;rw [←hx] at WA ST hv;have EA:=hid hx;clear hst hP q2 ha hwv h4 hx;have MF:=hid fun W=>AH.out (dK c k) hck W;rw [ME] at MF;have ST0:=ST.out wr (Below.refl _ _);generalize hi0:l.countP (fun s=>decide (Rg.gy (dK c k) s t))=i0 at *;generalize hi1:l.countP (fun s=>decide (Rg.gy (dK c (k+1)) s t))=i1 at *;have HI1:=hid hi1;clear hi0 hi1 ST0;(go_upto_region 5 with (go_at_call 116;refine WA.mono ?_;rintro e w2 ⟨rfl,hb2⟩));have ST2:=ST.out w2 hb2;have HB2:=hid hb2;clear ST WA;(go_upto_region 6 with (go_at_call 115;refine ST2.mono ?_;rintro e w3 ⟨rfl,hb3⟩));have lC:=hid (HY.out.keep (aA HB2.out hb3));have Yu:=hid (HX.out.keep (aA HB2.out hb3));have HB3:=hid (aA HB.out (aA HB2.out hb3));have c1:=lC.out.cell (l7 tc _ hd);have f1:=lC.out.free (dK c (k+1));clear ST2 hb3 HY HX HB HB2 hb2 c0;generalize hdd:dK c (k+1)=d at *;have lD:=hid hdd;clear hdd;(go_wp2_with (go_at_call 114;refine (MF.out _).mono ?_;rintro e w' ⟨rfl,dx⟩;have hw2:=dx.symm;subst hw2));go_roundw
    (case rel=>refine ⟨k+1,Ey tc d x,by omega,by go_num,by rw [lD.out],by rw [lD.out,HI1.out],HB3.out.setCell (by show w.heap.size≤w.heap.size+1;omega) _,Yu.out.other (by omega) _ _,?_,?_⟩;{rw [←Yo _ _ _ hd];exact lC.out.set d _};{intro j h1 h2;have hj:=Ez c j;rw [at_set _ _ _ _ hd hj];split;{rename_i e;rw [e];exact EA.out};{rename_i e;refine HD.out j h1 ?_;have:j≠k+1:=(by intro e';apply e;rw [e'];exact lD.out);omega}});case measure=>simp [intOf];omega
  {obtain rfl:k=3:=(by omega);have hte:tc=t:=Yp fun d hd=>(by obtain ⟨j,h1,h2,h3⟩:∃ j,1≤j∧j≤3∧dK c j=d:=(by rcases Rg.c3 hc with rfl | rfl | rfl <;> rcases Rg.c3 hd with rfl | rfl | rfl;{exact ⟨3,by omega,by omega,rfl⟩};{exact ⟨2,by omega,by omega,rfl⟩};{exact ⟨1,by omega,by omega,rfl⟩};{exact ⟨1,by omega,by omega,rfl⟩};{exact ⟨3,by omega,by omega,rfl⟩};{exact ⟨2,by omega,by omega,rfl⟩};{exact ⟨2,by omega,by omega,rfl⟩};{exact ⟨1,by omega,by omega,rfl⟩};{exact ⟨3,by omega,by omega,rfl⟩});rw [←h3];exact HD.out j h1 h2);subst hte;have d0:=(jB HY.out).1;have d1:=(jB HY.out).2.1;have d2:=(jB HY.out).2.2;have r0:=HX.out.cell (i:=0) rfl;have r1:=HX.out.cell (i:=1) rfl;have r2:=HX.out.cell (i:=2) rfl;have s0:=HX.out.free 0;have s1:=HX.out.free 1;have s2:=HX.out.free 2;clear q1 q2;go_wp2;have HZ:=hid (Af HX.out (.int .i64 tc.1) (.int .i64 tc.2.1) (.int .i64 tc.2.2));exact bodyPost_ret (v:=tv tc) (Mq rfl HZ.out Tryz.results79) rfl ⟨rfl,Ag HB.out (by omega) _ _ _⟩}
theorem Yv (t:Rg.T) (c:Nat) (hc:c<3) (w:World):(Instr.index 77 (.agg #[.int .i64 t.1,.int .i64 t.2.1,.int .i64 t.2.2]) (.int .i64 c)).run Tryz.prog w=.ok (.int .i64 (Rg.at' t c)) w:=by rcases Rg.c3 hc with rfl | rfl | rfl <;> simp [Instr.index,run_underlying Tryz.underlying77,asIntOf,go_sem,Rg.at',Tryz.sizeOf3,Tryz.isAgg3]
end Go.Proofs.YtjaebndajhppgaaGreatDoor
