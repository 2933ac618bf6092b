/-GRg4-/
import Derived.Test.YtjaebndajhppgaaGreatDoorMlHd1
import Derived.Test.YtjaebndajhppgaaGreatDoorMlGRg1
import Derived.Test.YtjaebndajhppgaaGreatDoorMlGB
import Derived.Shelf.Abstract
import Derived.Deep.DeepCutAuto
import Derived.Sort.Grow
import Derived.Test.YtjaebndajhppgaaGreatDoorMlGRg3
import Derived.Laws.StructEq
set_option linter.unusedVariables false
set_option linter.unusedSimpArgs false
set_option maxRecDepth 100000
set_option maxHeartbeats 1000000
namespace Go.Proofs.YtjaebndajhppgaaGreatDoor.Rg
theorem WX {l:List T} (hn:l.Nodup) (p:T) (i:Nat) (h:i<l.countP (dV p).2.2-l.countP (dV p).2.1):(O l (dV p).1)[l.countP (dV p).2.1+i]?=((O l (dV p).1).filter (mt p))[i]?:=by rw [←Vl hn p,List.getElem?_drop,List.getElem?_take_of_lt aj]
theorem ou {l:List T} (p:T):((O l (dV p).1).filter (mt p)).length=l.countP (dV p).2.2-l.countP (dV p).2.1:=by rw [←List.countP_eq_length_filter,(jr l _).countP_eq];have:=count_eq l p;omega
theorem WY (t:T):mt (0,0,0) t=true:=by simp [mt]
end Go.Proofs.YtjaebndajhppgaaGreatDoor.Rg
namespace Go.Proofs.YtjaebndajhppgaaGreatDoor
open Go.Proofs.Tryz
open Go.ChangeShapes Go.WideShapes Go.ChangeAt Go.RowKit
def tl (t:Rg.T):List Value:=[.int .i64 t.1,.int .i64 t.2.1,.int .i64 t.2.2]
def tv (t:Rg.T):Value:=.agg #[.int .i64 t.1,.int .i64 t.2.1,.int .i64 t.2.2]
theorem nI (t:Rg.T) (i:Nat) (h:i<3):(tl t)[i]?=some (.int .i64 (Rg.at' t i)):=by
 match i,h with
 | 0,_=>rfl
 | 1,_=>rfl
 | 2,_=>rfl
theorem WZ (c:Nat) (hc:c<3) (w:World):Calls prog 224 #[.int .i64 c] w fun e w'=>e=.returned (.int .i64 (Rg.nx c:Nat))∧w'=w:=by go_enter func224,ntmps224;go_wp2;go_ret;rcases Rg.c3 hc with rfl | rfl | rfl <;> exact ⟨rfl,rfl⟩
theorem xq (c:Nat) (hc:c<3) (w:World):Calls prog 114 #[.int .i64 c] w fun e w'=>e=.returned (.int .i64 (Rg.pv c:Nat))∧w'=w:=by go_enter func114,ntmps114;go_wp2;go_ret;rcases Rg.c3 hc with rfl | rfl | rfl <;> exact ⟨rfl,rfl⟩
theorem W9 (x:Int) (w:World):Calls prog 203 #[.int .i64 x] w fun e w'=>e=.returned (.bool false)∧w'=w:=by go_enter func203,ntmps203;go_wp2;go_ret;exact ⟨aC,rfl⟩
def ci (x y:Int):Int:=if x<y then -1 else if y<x then 1 else 0
theorem W_ (x y:Int) (w:World):Calls prog 169 #[.int .i64 x,.int .i64 y] w fun e w'=>e=.returned (.int .i64 (ci x y))∧w'=w:=by
 go_enter func169,ntmps169;go_wp2_with (go_at_call 203;refine (W9 _ _).mono ?_;rintro e w' ⟨rfl,rfl⟩)
 all_goals (go_ret;refine ⟨?_,rfl⟩;unfold ci;(repeat' split) <;> first | rfl | (exfalso;omega))
theorem Xa (x y:Rg.T) (b1 b2:Nat) (t1 t2:TypeId) (w:World) (h1:ak w b1 (tl x) t1) (h2:ak w b2 (tl y) t2) :
  Calls prog 119 #[.slice (some ⟨b1,0,none⟩) 3 3,.slice (some ⟨b2,0,none⟩) 3 3] w fun e w'=>e=.returned (.int .i64 (Rg.cmp x y))∧w'=w:=by
 have H1:=hid fun i (h:i<3)=>h1.cell (nI x i h);have H2:=hid fun i (h:i<3)=>h2.cell (nI y i h);clear h1 h2;go_enter func119,ntmps119;go_wp2;go_loopw [11] (fun s11 wr=>∃ i:Nat,i≤3∧s11=.int .i64 i∧wr=w∧Hid (∀ j,j<i→Rg.at' x j=Rg.at' y j)) (fun s11 _=>3-(intOf s11).toNat)
 case atStart=>exact ⟨0,aj,rfl,rfl,fun j hj=>absurd hj (Nat.not_lt_zero _)⟩
 case round=>
  obtain ⟨i,hi,rfl,fU,HE⟩:=hrel;subst fU;by_cases hlt:i<3
  · have c1:=H1.out i hlt;have c2:=H2.out i hlt;have IC:=W_ (Rg.at' x i) (Rg.at' y i) wr;by_cases hc:ci (Rg.at' x i) (Rg.at' y i)=0
    · rw [hc] at IC;have HC:=hid hc;clear hc;(go_wp2_with (go_at_call 169;refine IC.mono ?_;rintro e w' ⟨rfl,rfl⟩));go_roundw
      (case rel=>refine ⟨i+1,aj,aN,trivial,fun j hj=>?_⟩;by_cases hji:j<i;{exact HE.out j hji};{obtain rfl:j=i:=aj;have:=HC.out;unfold ci at this;split at this;{omega};{split at this <;> omega}});case measure=>simp [intOf];omega
    {have hr:ci (Rg.at' x i) (Rg.at' y i)=Rg.cmp x y:=(by have he:=HE.out;unfold ci at hc ⊢;unfold Rg.cmp;have e0:=he 0;have e1:=he 1;obtain ⟨x0,x1,x2⟩:=x;obtain ⟨y0,y1,y2⟩:=y;rcases Rg.c3 hlt with rfl | rfl | rfl <;> simp [Rg.at'] at * <;> (repeat' split) <;> first | rfl | omega | (exfalso;omega));have HR:=hid hr;clear hr;generalize ci (Rg.at' x i) (Rg.at' y i)=r at *;(go_wp2_with (go_at_call 169;refine IC.mono ?_;rintro e w' ⟨rfl,rfl⟩));go_ret;exact ⟨by rw [HR.out];rfl,rfl⟩}
  {obtain rfl:i=3:=aj;have hr:Rg.cmp x y=0:=(by have he:=HE.out;have e0:=he 0 aj;have e1:=he 1 aj;have e2:=he 2 aj;simp only [Rg.at'] at e0 e1 e2;unfold Rg.cmp;simp at e0 e1 e2;simp [e0,e1,e2]);have HR:=hid hr;clear hr;go_wp2;go_ret;exact ⟨by rw [HR.out];rfl,rfl⟩}
def Dr (w w':World):Prop:=∃ q,w'.drawn=w.drawn+q
theorem Dr.refl (w:World):Dr w w:=⟨0,rfl⟩
theorem Dr.trans {a b c:World} (h:Dr a b) (k:Dr b c):Dr a c:=by obtain ⟨p,hp⟩:=h;obtain ⟨q,hq⟩:=k;exact ⟨p+q,by rw [hq,hp,Nat.add_assoc]⟩
theorem Dr.alloc {a b:World} (h:Dr a b) (o:Obj):Dr a (b.alloc o):=h
theorem Dr.drewN {a b:World} (h:Dr a b) (n:Nat):Dr a (b.drewN n):=by obtain ⟨p,hp⟩:=h;exact ⟨p+n,by show b.drawn+n=_;rw [hp,Nat.add_assoc]⟩
theorem Dr.setCell {a b:World} (h:Dr a b) (x:Addr) (v:Value):Dr a (b.setCell x v):=by obtain ⟨p,hp⟩:=h;exact ⟨p,by rw [←hp];rfl⟩
theorem Lx {fn:Func} {tmps:Array Value} {Z:World} {b k:Nat} {v0 v1 v2:Value} (ht:tmps.getD k undef=.pointer (some ⟨b,0,none⟩)) (hZ:ak Z b [v0,v1,v2] 77) (hf:fn.results=#[.cell k 77]) :
  (results fn tmps).run prog Z=.ok (.agg #[v0,v1,v2]) Z:=by
 have h0:=hZ.cell (i:=0) rfl;have h1:=hZ.cell (i:=1) rfl;have h2:=hZ.cell (i:=2) rfl;have ht':tmps[k]?.getD undef=.pointer (some ⟨b,0,none⟩):=by simpa using ht
 simp [results,hf,ht',go_sem,h0,h1,h2]
theorem Az (w:World) (t:Rg.T):∃ w1,w1=w.alloc (.cells #[.int .i64 t.1,.int .i64 t.2.1,.int .i64 t.2.2] 77)∧Hid (ak w1 w.heap.size (tl t) 77)∧Hid (Below w.heap.size w w1)∧Hid (Dr w w1)∧w1.heap.size=w.heap.size+1:=
 ⟨_,rfl,ak.new w (tl t) 77,(Below.refl _ _).alloc ay _,Dr.alloc (Dr.refl _) _,aC⟩
theorem kH {w:World} {b:Nat} {t:Rg.T} (h:ak w b (tl t) 77):w.cell? ⟨b,0,none⟩=some (.int .i64 t.1)∧w.cell? ⟨b,1,none⟩=some (.int .i64 t.2.1)∧w.cell? ⟨b,2,none⟩=some (.int .i64 t.2.2):=
 ⟨h.cell rfl,h.cell rfl,h.cell rfl⟩
theorem Ei (w:World) (x y:Rg.T):∃ w1,w1=(w.alloc (.cells #[.int .i64 x.1,.int .i64 x.2.1,.int .i64 x.2.2] 77)).alloc (.cells #[.int .i64 y.1,.int .i64 y.2.1,.int .i64 y.2.2] 77)∧Hid (ak w1 w.heap.size (tl x) 77)∧Hid (ak w1 (w.heap.size+1) (tl y) 77)∧Hid (Below w.heap.size w w1)∧Hid (Dr w w1):=by refine ⟨_,rfl,(ak.new w (tl x) 77).alloc _,ak.new' aC rfl,((Below.refl _ _).alloc ay _).alloc aC _,Dr.alloc (Dr.alloc (Dr.refl _) _) _⟩
theorem Ej (x y:Rg.T) (w:World):Calls prog 81 #[tv x,tv y] w fun e w'=>e=.returned (.int .i64 (Rg.cmp x y))∧Below w.heap.size w w'∧Dr w w':=by
 unfold tv;go_enter func81,ntmps81;go_upto_region 1 with fail
 obtain ⟨w1,hw1,HX,HY,HB,HD⟩:=Ei w x y;rw [←hw1];clear hw1;have SC:=hid fun q=>Xa x y w.heap.size (w.heap.size+1) 77 77 (w1.drewN q) (HX.out.drewN q) (HY.out.drewN q);go_quiet ((go_at_call 119;exact oU fun W hW=>by rw [hW];exact SC.out _))
 go_wp2;go_ret;exact ⟨rfl,cB HB.out _,HD.out.drewN _⟩
theorem LD (t:Rg.T) (c:Nat) (hc:c<3) (w:World):Calls prog 182 #[tv t,.int .i64 c] w fun e w'=>e=.returned (tv (Rg.iI c t))∧Below w.heap.size w w'∧Dr w w':=by
 unfold tv;have BH:=hid fun W=>WZ c hc W;have AH:=hid fun W=>xq c hc W;go_enter func182,ntmps182;go_upto_region 1 with fail
 obtain ⟨w1,hw1,HX,HY,HB,HD⟩:=Ei w t (0,0,0);rw [show (w.alloc (.cells #[.int .i64 t.1,.int .i64 t.2.1,.int .i64 t.2.2] 77)).alloc (.cells #[.int .i64 0,.int .i64 0,.int .i64 0] 77)=w1 from hw1.symm];clear hw1;have c0:=HX.out.cell (nI t c hc);have c1:=HX.out.cell (nI t (Rg.nx c) (Nat.mod_lt _ aH));have c2:=HX.out.cell (nI t (Rg.pv c) (Rg.nD c));have hnx:Rg.nx c<3:=Nat.mod_lt _ aH;have hpv:Rg.pv c<3:=Rg.nD c;refine CK 12 aD aD ?_;simp only [List.take_succ_cons,List.take_zero,List.drop_succ_cons,List.drop_zero];repeat (go_big_quiet_step (first | (go_at_call 224;exact oU fun W hW=>BH.out W) | (go_at_call 114;exact oU fun W hW=>AH.out W)))
 refine wpQuiet_nil ?_;rintro _ ⟨nq,rfl⟩;obtain ⟨W,hW⟩:=aA (w1.drewN nq);rw [←hW];have oC:ak W (w.heap.size+1) (tl (0,0,0)) 77:=by rw [hW];exact HY.out.drewN nq
 have HB2:=hid (show Below w.heap.size w W by rw [hW];exact cB HB.out nq);have HD2:=hid (show Dr w W by rw [hW];exact HD.out.drewN nq);have d0:=oC.cell (i:=0) rfl;have d1:=oC.cell (i:=1) rfl;have d2:=oC.cell (i:=2) rfl;have f0:=oC.free 0;have f1:=oC.free 1;have f2:=oC.free 2;have mR:=hid oC;clear hW c0 c1 c2 oC;go_wp2;have HZ:=hid (((mR.out.set 0 (.int .i64 (Rg.at' t c))).set 1 (.int .i64 (Rg.at' t (Rg.nx c)))).set 2 (.int .i64 (Rg.at' t (Rg.pv c))));exact bodyPost_ret (v:=.agg #[.int .i64 (Rg.at' t c),.int .i64 (Rg.at' t (Rg.nx c)),.int .i64 (Rg.at' t (Rg.pv c))]) (Lx rfl HZ.out results182) rfl ⟨rfl,((HB2.out.setCell aC _).setCell aC _).setCell aC _,((HD2.out.setCell _ _).setCell _ _).setCell _ _⟩
structure eG (w:World) where
 it:World
 low:Below w.heap.size w it
 dr:Dr w it
instance {w:World}:Nonempty (eG w):=⟨⟨w,Below.refl _ w,Dr.refl w⟩⟩
theorem AA {P:Program} {id:Nat} {Q:Exit→Act→World→Prop} {a:Act} {w:World} {l:List Oper} (hm:P.follows .mixedOrders=true) (hB:Region.lexB .any l.toArray=true)
  (h:wpQuiet P l.toArray (fun w'=>∃ p:eG w,w'=p.it) (fun a'=>∀ w',(∃ p:eG w,w'=p.it)→Q .normal a' w') l a):(Code.region id l.toArray true).wp P Q a w:=
 wp_region_quiet (C:=fun w'=>∃ p:eG w,w'=p.it) hm hB ⟨⟨_,(Below.refl _ w).drew,⟨1,rfl⟩⟩,rfl⟩ (by simpa using h)
theorem eG.call {P:Program} {f:FuncId} {args:Array Value} {w:World} {p:eG w} {v:Value}
  (h:Calls P f args p.it fun e w'=>e=.returned v∧Below p.it.heap.size p.it w'∧Dr p.it w'):Calls P f args p.it fun e w''=>e=.returned v∧∃ q:eG w,w''=q.it:=
 h.mono fun _ _ ⟨he,hb,hd⟩=>⟨he,⟨_,aG p.low hb,p.dr.trans hd⟩,rfl⟩
theorem eG.keep {w:World} (p:eG w) {b o:Nat} {v:Value} (hc:w.cell? ⟨b,o,none⟩=some v):p.it.cell? ⟨b,o,none⟩=some v:=aB p.low hc
theorem El {w w':World} (h:Below w.heap.size w w') (d:Dr w w'):∃ q os,w'=Go.Sort.grow (w.drewN q) os:=by
 obtain ⟨q,hq⟩:=d;refine ⟨q,w'.heap.extract w.heap.size w'.heap.size,?_⟩;have hh:w'.heap=w.heap++w'.heap.extract w.heap.size w'.heap.size:=by apply Array.ext_getElem?;intro k;rw [Array.getElem?_append];split;{rename_i hk;exact h.block k hk};{rename_i hk;rw [Array.getElem?_extract];have hs:=h.size;by_cases hk2:k<w'.heap.size;{rw [if_pos aj,show w.heap.size+(k-w.heap.size)=k by omega]};{rw [if_neg aj,Array.getElem?_eq_none aj]}}
 obtain ⟨h1,h2,h3,h4,h5⟩:=w';have e1:=h.tape;have e2:=h.os;have e3:=h.output;simp only at e1 e2 e3 hq hh;subst e1 e2 e3 hq;unfold Go.Sort.grow World.drewN;simp only [World.mk.injEq,and_true,true_and];exact hh
theorem Xb (x y:Rg.T) (c bc:Nat) (hc:c<3) (w:World) (hb:w.cell? ⟨bc,0,none⟩=some (.int .i64 c)) :
  Calls prog 181 #[tv x,tv y,.pointer (some ⟨bc,0,none⟩)] w fun e w'=>e=.returned (.int .i64 (Rg.cf c x y))∧Below w.heap.size w w'∧Dr w w':=by
 unfold tv;go_enter func181,ntmps181;go_upto_region 1 with fail
 obtain ⟨w1,hw1,HX,HY,HB,HD⟩:=Ei w x y;rw [←hw1];clear hw1;have g0:=fun q:eG w1=>q.keep (aB HB.out hb);have g1:=fun q:eG w1=>q.keep (kH HX.out).1;have g2:=fun q:eG w1=>q.keep (kH HX.out).2.1;have g3:=fun q:eG w1=>q.keep (kH HX.out).2.2;have g4:=fun q:eG w1=>q.keep (kH HY.out).1;have g5:=fun q:eG w1=>q.keep (kH HY.out).2.1;have g6:=fun q:eG w1=>q.keep (kH HY.out).2.2;have T1:=hid fun q:eG w1=>LD x c hc q.it;have T2:=hid fun q:eG w1=>LD y c hc q.it;have CM:=hid fun q:eG w1=>Ej (Rg.iI c x) (Rg.iI c y) q.it;unfold tv at T1 T2 CM;have hcf:Rg.cmp (Rg.iI c x) (Rg.iI c y)=Rg.cf c x y:=rfl;rw [hcf] at CM;generalize Rg.iI c x=rx at *;generalize Rg.iI c y=ry at *;obtain ⟨r,hr⟩:=aA (Rg.cf c x y);rw [←hr] at CM;have HR:=hid hr;clear hb HX HY hr;refine AA aD aD ?_;repeat (go_big_quiet_step (first | (go_at_call 182;with_reducible exact eG.call (T1.out _)) | (go_at_call 182;with_reducible exact eG.call (T2.out _)) | (go_at_call 81;with_reducible exact eG.call (CM.out _))))
 refine wpQuiet_nil ?_;rintro _ ⟨q,rfl⟩;go_wp2;go_ret;exact ⟨by rw [←HR.out];rfl,aG HB.out q.low,HD.out.trans q.dr⟩
def kI (w:World) (p:Nat) (l:List Rg.T):Prop:=l.Pairwise Rg.lt∧(∀ t∈l,Rg.Ok t)∧l.length≤100∧∃ pw:Nat→Nat,∀ c,c<3→w.cell? ⟨p,c,none⟩=some (.pointer (some ⟨pw c,0,none⟩))∧kG w (pw c) (Rg.A l c) 10
theorem kI.keep {w w':World} {p:Nat} {l:List Rg.T} (h:kI w p l) (hb:Below w.heap.size w w'):kI w' p l:=by obtain ⟨h1,h2,h3,pw,h4⟩:=h;exact ⟨h1,h2,h3,pw,fun c hc=>⟨aB hb (h4 c hc).1,(h4 c hc).2.keep hb⟩⟩
theorem kI.nodup {w:World} {p:Nat} {l:List Rg.T} (h:kI w p l):l.Nodup:=h.1.imp fun {a b} hab=>by intro e;subst e;exact Rg.lt_irrefl _ hab
theorem LH (p wd:Nat) (l:List Nat) (w:World) (h:kG w p l wd):Calls prog 77 #[.pointer (some ⟨p,0,none⟩)] w fun e w'=>e=.returned (.int .i64 l.length)∧w'=w:=by obtain ⟨_,_,_,ad,cap,c0,_⟩:=h;exact DZ p _ w c0
theorem Xc (p:Nat) (l:List Rg.T) (w:World) (h:kI w p l):Calls prog 37 #[.pointer (some ⟨p,0,none⟩)] w fun e w'=>e=.returned (.int .i64 l.length)∧w'=w:=by
 obtain ⟨_,_,_,pw,h4⟩:=h;have c0:=(h4 0 aj).1;have WL:=LH (pw 0) 10 _ w (h4 0 aj).2;rw [Rg.uy] at WL;clear h4;go_enter func37,ntmps37;go_wp2_with (go_at_call 77;refine WL.mono ?_;rintro e w' ⟨rfl,rfl⟩)
 go_ret;exact ⟨rfl,rfl⟩
theorem AB (p c:Nat) (l:List Rg.T) (P:Rg.T→Bool) (v:Int) (w:World) (h:kI w p l) (hc:c<3) (hP:Rg.Lower c P) (hv:-9223372036854775808≤v) :
  Calls prog 115 #[.pointer (some ⟨p,0,none⟩),.int .i64 c,.int .i64 (l.countP P:Nat),.int .i64 v] w fun e w'=>e=.returned (.int .i64 (l.countP (Rg.iy c v P):Nat))∧Below w.heap.size w w':=by
 have hnd:=h.nodup;obtain ⟨h1,h2,h3,pw,h4⟩:=h;obtain ⟨c0,hw⟩:=h4 c hc;have hs:=Rg.step_eq hc hnd h2 hP v;have hcp:l.countP P≤l.length:=List.countP_le_length;have hcp2:l.countP (Rg.iy c v P)≤l.length:=List.countP_le_length;have hal:=Rg.uy l c;have WL:=hid fun W (hb:Below w.heap.size w W)=>LH (pw c) 10 _ W (hw.keep hb);have WC:=hid fun W (hb:Below w.heap.size w W)=>KT (pw c) 10 _ 0 l.length v 1000 W (hw.keep hb) aj;have WR:=hid fun W (hb:Below w.heap.size w W)=>Wi (pw c) 10 _ v (l.countP P:Nat) W (hw.keep hb) hv;rw [Wv.Vd,hal] at WC WR;rw [hal] at WL;have e1:Wv.jE l.length (l.length:Int)=l.length:=by unfold Wv.jE;omega
 have e2:Wv.jE l.length ((l.countP P:Nat):Int)=l.countP P:=by unfold Wv.jE;omega
 rw [e1] at WC;rw [e2] at WR;have e3:(Rg.A l c).take l.length=Rg.A l c:=by rw [←hal,List.take_length]
 rw [e3] at WC;have k1:=Wv.Kk (Rg.A l c) v 1000;have k2:=Wv.Kk ((Rg.A l c).take (l.countP P)) v v;rw [hal] at k1;rw [List.length_take] at k2;have hs2:(l.length:Int)-(Wv.lu (Rg.A l c) v 1000:Nat)+(Wv.lu ((Rg.A l c).take (l.countP P)) v v:Nat)=(l.countP (Rg.iy c v P):Nat):=hs;generalize Wv.lu (Rg.A l c) v 1000=x1 at *;generalize Wv.lu ((Rg.A l c).take (l.countP P)) v v=x2 at *;generalize l.countP (Rg.iy c v P)=r at *;generalize l.countP P=i at *;have HS:=hid hs2;clear h1 h2 h4 hs hs2 hw e1 e2 e3 hP hal hnd;go_enter func115,ntmps115;go_upto_region 2 with fail
 have Xd:=WL.out w (Below.refl _ _);have Xe:=WC.out w (Below.refl _ _);go_wp2_with (first | (go_at_call 77;refine Xd.mono ?_;rintro e w' ⟨rfl,rfl⟩) | (go_at_call 154;refine Xe.mono ?_;rintro e w2 ⟨rfl,hb2⟩))
 go_wp2_with ((go_at_call 155;refine (WR.out w2 hb2).mono ?_;rintro e w3 ⟨rfl,hb3⟩))
 go_ret;exact ⟨by rw [HS.out];rfl,aG hb2 hb3⟩
theorem Xf (t:Rg.T) (w:World):Calls prog 113 #[tv t] w fun e w'=>e=.returned (.int .i64 (Rg.start t:Nat))∧Below w.heap.size w w':=by
 unfold tv;have AH:=hid fun c hc W=>xq c hc W;go_enter func113,ntmps113;go_upto_region 1 with fail
 obtain ⟨w1,hw1,HX,HB,HD,hz⟩:=Az w t;rw [←hw1];clear hw1;go_wp2;go_loopw [4] (fun s4 wr=>∃ i:Nat,i≤3∧s4=.int .i64 i∧wr=w1∧Hid (∀ j,j<i→¬ (Rg.at' t j=0∧Rg.at' t (Rg.pv j)≠0))) (fun s4 _=>3-(intOf s4).toNat)
 case atStart=>exact ⟨0,aj,rfl,rfl,fun j hj=>absurd hj (Nat.not_lt_zero _)⟩
 case round=>
  obtain ⟨i,hi,rfl,fU,HE⟩:=hrel;subst fU;by_cases hlt:i<3
  · have hpv:=Rg.nD i;have c0:=HX.out.cell (nI t i hlt);have c1:=HX.out.cell (nI t (Rg.pv i) hpv);by_cases h0:Rg.at' t i=0
    · rw [h0] at c0;by_cases h1:Rg.at' t (Rg.pv i)=0
      · rw [h1] at c1;have H1:=hid h1;clear h0 h1;(go_wp2_with (go_at_call 114;refine (AH.out _ hlt _).mono ?_;rintro e w' ⟨rfl,rfl⟩));go_roundw
        (case rel=>refine ⟨i+1,aj,aN,trivial,fun j hj=>?_⟩;by_cases hji:j<i;{exact HE.out j hji};{obtain rfl:j=i:=aj;intro h;exact h.2 H1.out});case measure=>simp [intOf];omega
      {have H0:=hid h0;have H1:=hid h1;clear h0;(go_wp2_with (go_at_call 114;refine (AH.out _ hlt _).mono ?_;rintro e w' ⟨rfl,rfl⟩));go_ret;refine ⟨?_,HB.out⟩;have he:=HE.out;have hs:Rg.start t=i:=(by have a0:=H0.out;have a1:=H1.out;have b0:=he 0;have b1:=he 1;unfold Rg.start;rcases Rg.c3 hlt with rfl | rfl | rfl <;> simp [Rg.at',Rg.pv] at a0 a1 b0 b1 ⊢ <;> (repeat' split) <;> first | rfl | omega);rw [hs];rfl}
    · have H0:=hid h0;(go_wp2_with (go_at_call 114;refine (AH.out _ hlt _).mono ?_;rintro e w' ⟨rfl,rfl⟩));go_roundw
      (case rel=>refine ⟨i+1,aj,aN,trivial,fun j hj=>?_⟩;by_cases hji:j<i;{exact HE.out j hji};{obtain rfl:j=i:=aj;intro h;exact H0.out h.1});case measure=>simp [intOf];omega
  {obtain rfl:i=3:=aj;have hs:Rg.start t=0:=(by have b0:=HE.out 0 aj;have b1:=HE.out 1 aj;have b2:=HE.out 2 aj;unfold Rg.start;simp [Rg.at',Rg.pv] at b0 b1 b2 ⊢;(repeat' split) <;> first | rfl | omega);have HS:=hid hs;clear hs;go_wp2;go_ret;exact ⟨by rw [HS.out];rfl,HB.out⟩}
theorem uG (w:World) (a b c:Value) (t:TypeId):∃ w1,w1=w.alloc (.cells #[a,b,c] t)∧Hid (ak w1 w.heap.size [a,b,c] t)∧Hid (Below w.heap.size w w1):=
 ⟨_,rfl,ak.new w [a,b,c] t,(Below.refl _ _).alloc ay _⟩
theorem AJ {w:World} {b:Nat} {x y z:Value} {t:TypeId} (h:ak w b [x,y,z] t) (v0 v1 v2:Value):ak (((w.setCell ⟨b,0,none⟩ v0).setCell ⟨b,1,none⟩ v1).setCell ⟨b,2,none⟩ v2) b [v0,v1,v2] t:=((h.set 0 v0).set 1 v1).set 2 v2
theorem AO {w X:World} {b:Nat} (h:Below w.heap.size w X) (hb:w.heap.size≤b) (v0 v1 v2:Value):Below w.heap.size w (((X.setCell ⟨b,0,none⟩ v0).setCell ⟨b,1,none⟩ v1).setCell ⟨b,2,none⟩ v2):=((h.setCell hb _).setCell hb _).setCell hb _
theorem LJ {X:World} {b q:Nat} {A:List Value} {t:TypeId} (h:ak X q A t) (hb:q≠b) (v0 v1 v2:Value):ak (((X.setCell ⟨b,0,none⟩ v0).setCell ⟨b,1,none⟩ v1).setCell ⟨b,2,none⟩ v2) q A t:=((h.other hb 0 v0).other hb 1 v1).other hb 2 v2
theorem LM {fn:Func} {tmps:Array Value} {Z:World} {b k:Nat} {v0 v1 v2:Value} (ht:tmps.getD k undef=.pointer (some ⟨b,0,none⟩)) (hZ:ak Z b [v0,v1,v2] 131) (hf:fn.results=#[.cell k 131]) :
  (results fn tmps).run prog Z=.ok (.agg #[v0,v1,v2]) Z:=by
 have h0:=hZ.cell (i:=0) rfl;have h1:=hZ.cell (i:=1) rfl;have h2:=hZ.cell (i:=2) rfl;have ht':tmps[k]?.getD undef=.pointer (some ⟨b,0,none⟩):=by simpa using ht
 simp [results,hf,ht',go_sem,h0,h1,h2]
def fv (l:List Rg.T) (r:Nat×(Rg.T→Bool)×(Rg.T→Bool)):Value:=.agg #[.int .i64 r.1,.int .i64 (l.countP r.2.1:Nat),.int .i64 (l.countP r.2.2:Nat)]
theorem Xg (p:Nat) (l:List Rg.T) (t:Rg.T) (w:World) (h:kI w p l) (ht:∀ c,c<3→-9223372036854775808≤Rg.at' t c) :
  Calls prog 78 #[.pointer (some ⟨p,0,none⟩),tv t] w fun e w'=>e=.returned (fv l (Rg.dV t))∧Below w.heap.size w w':=by
 have AH:=hid fun c hc W=>xq c hc W;have BG:=hid fun W=>Xf t W;have HR:=hid h;have HT:=hid ht;have ST:=hid (Rg.start_lt t);clear h ht;unfold tv at *;go_enter func78,ntmps78;go_upto_region 1 with fail
 obtain ⟨w1,hw1,HX,HB,HD,hz⟩:=Az w t;rw [←hw1];clear hw1;obtain ⟨w2,hw2,HY,HB2⟩:=uG w1 (.int .i64 0) (.int .i64 0) (.int .i64 0) 131;rw [hz] at HY;rw [←hw2];have c0:=(kH (HX.out.keep HB2.out)).1;have c1:=(kH (HX.out.keep HB2.out)).2.1;have c2:=(kH (HX.out.keep HB2.out)).2.2;have hz2:w2.heap.size=w.heap.size+1+1:=by rw [hw2];simp [hz]
 clear hw2;go_upto_region 2 with (go_at_call 113;refine (BG.out _).mono ?_;rintro e w3 ⟨rfl,hb3⟩)
 have RL:=Xc p l w3 (HR.out.keep (aG (aG HB.out HB2.out) hb3));have aP:=hid (aG (aG HB.out HB2.out) hb3);have LQ:=hid ((HX.out.keep HB2.out).keep hb3);have pI:=hid (HY.out.keep hb3);have qI:=hb3.size;have HL:=hid (show l.length≤100 from HR.out.2.2.1);clear HX HY HB HB2 HD hb3 BG c0 c1 c2;go_upto_region 3 with (go_at_call 37;refine RL.mono ?_;rintro e w4 ⟨rfl,rfl⟩)
 have hle:=aP.out.size;obtain ⟨w5,dF,Xh,aR⟩:=uG w4 (.int .i64 (Rg.start t:Nat)) (.int .i64 0) (.int .i64 l.length) 131;rw [←dF];have Xi:=hid (LQ.out.keep aR.out);have Xj:=hid (pI.out.keep aR.out);have aO:=hid (aG aP.out aR.out);clear dF LQ pI aP RL;go_wp2;go_loopw [13,5] (fun s13 s5 wr=>∃ (k c:Nat) (P Q:Rg.T→Bool),k≤3∧c<3∧s13=.int .i64 k∧s5=.int .i64 c∧Hid (Below w.heap.size w wr)∧Hid (ak wr w.heap.size (tl t) 77)∧Hid (ak wr (w.heap.size+1) [.int .i64 0,.int .i64 0,.int .i64 0] 131) ∧
   Hid (ak wr w4.heap.size [.int .i64 c,.int .i64 (l.countP P:Nat),.int .i64 (l.countP Q:Nat)] 131)∧Hid (Rg.way t (3-k) c P Q=Rg.dV t)∧Hid (Rg.Lower c P)∧Hid (Rg.Lower c Q)) (fun s13 s5 _=>3-(intOf s13).toNat)
 case atStart=>refine ⟨0,Rg.start t,(fun _=>false),(fun _=>true),aj,ST.out,rfl,rfl,aO.out,Xi.out,Xj.out,?_,rfl,fun _ _ _ h=>h,fun _ _ _ h=>h⟩;have e1:l.countP (fun _=>false)=0:=aC;have e2:l.countP (fun _=>true)=l.length:=aC;rw [e1,e2];exact Xh.out
 case round=>
  obtain ⟨k,c,P,Q,hk,hc,rfl,rfl,HB,HX,HY,HF,HW,HP,HQ⟩:=hrel;have hcl:=HL.out;have q1:l.countP P≤l.length:=List.countP_le_length;have q2:l.countP Q≤l.length:=List.countP_le_length;by_cases hlt:k<3
  · have hpv:=Rg.nD c;have c0:=HX.out.cell (nI t (Rg.pv c) hpv);by_cases h0:Rg.at' t (Rg.pv c)=0;{rw [h0] at c0;have hw:Rg.dV t=(c,P,Q):=(by rw [←HW.out,show 3-k=(3-k-1)+1 by omega];unfold Rg.way;rw [if_pos h0]);have AP:=hid hw;have d0:=HF.out.cell (i:=0) rfl;have d1:=HF.out.cell (i:=1) rfl;have d2:=HF.out.cell (i:=2) rfl;have r0:=HY.out.cell (i:=0) rfl;have r1:=HY.out.cell (i:=1) rfl;have r2:=HY.out.cell (i:=2) rfl;have s0:=HY.out.free 0;have s1:=HY.out.free 1;have s2:=HY.out.free 2;clear h0 hw;(go_wp2_with (go_at_call 114;refine (AH.out _ hc _).mono ?_;rintro e w' ⟨rfl,rfl⟩));have HZ:=hid (AJ HY.out (.int .i64 c) (.int .i64 (l.countP P:Nat)) (.int .i64 (l.countP Q:Nat)));exact bodyPost_ret (v:=fv l (c,P,Q)) (LM rfl HZ.out results78) rfl ⟨by rw [AP.out],AO HB.out aj _ _ _⟩}
    · have hv:=HT.out (Rg.pv c) hpv;obtain ⟨x,hx⟩:=aA (Rg.at' t (Rg.pv c));rw [←hx] at c0 h0 hv;have d0:=HF.out.cell (i:=0) rfl;have d1:=HF.out.cell (i:=1) rfl;have d2:=HF.out.cell (i:=2) rfl;have xu:=HR.out.keep HB.out;have S1:=hid fun q:Later wr.heap.size wr=>AB p c l P x q.it (xu.keep q.low) hc HP.out hv;have S2:=hid fun q:Later wr.heap.size wr=>AB p c l Q x q.it (xu.keep q.low) hc HQ.out hv;have g0:=fun q:Later wr.heap.size wr=>q.keep c0;have g1:=fun q:Later wr.heap.size wr=>q.keep d0;have g2:=fun q:Later wr.heap.size wr=>q.keep d1;have g3:=fun q:Later wr.heap.size wr=>q.keep d2;have hnw:Rg.way t (3-(k+1)) (Rg.pv c) (Rg.iy c x P) (Rg.iy c x Q)=Rg.dV t:=by
       rw [←HW.out,show 3-k=(3-(k+1))+1 by omega];conv=>rhs;unfold Rg.way
       rw [←hx,if_neg h0]
      have Xk:=hid hnw;have lD:=hid (Rg.Af hc x HP.out);have Xl:=hid (Rg.Af hc x HQ.out);obtain ⟨n1,hn1⟩:=aA (l.countP (Rg.iy c x P));obtain ⟨n2,hn2⟩:=aA (l.countP (Rg.iy c x Q));rw [←hn1] at S1;rw [←hn2] at S2;have uH:=hid hn1;have AQ:=hid hn2;clear hx xu hnw hn1 hn2 HW;(go_upto_region 6 with (go_at_call 114;refine (AH.out _ hc _).mono ?_;rintro e w' ⟨rfl,fU⟩;have hw2:=fU.symm;subst hw2));refine Ij 21 wr.heap.size aD aD ?_;simp only [List.take_succ_cons,List.take_zero,List.drop_succ_cons,List.drop_zero];(repeat (go_big_quiet_step (first | (go_at_call 114;with_reducible exact Later.QM (AH.out _ hc _)) | (go_at_call 115;with_reducible exact Later.call ay (S1.out _)) | (go_at_call 115;with_reducible exact Later.call ay (S2.out _)))));refine wpQuiet_nil ?_;rintro wq ⟨q,hq⟩;have hlow:Below wr.heap.size wr wq:=(by rw [hq];exact q.low);have sj:=hid (HF.out.keep hlow);have LU:=hid (HX.out.keep hlow);have Xm:=hid (HY.out.keep hlow);have ig:=hid (aG HB.out hlow);have k0:=sj.out.cell (i:=0) rfl;have k1:=sj.out.cell (i:=1) rfl;have k2:=sj.out.cell (i:=2) rfl;have s0:=sj.out.free 0;have s1:=sj.out.free 1;have s2:=sj.out.free 2;have aed:=LU.out.lt;clear g0 g1 g2 g3 d0 d1 d2 c0 S1 S2 hq q hlow;(go_upto_region 7 with fail);(go_wp2_with (go_at_call 114;refine (AH.out _ hc _).mono ?_;rintro e w' ⟨rfl,rfl⟩));go_roundw
      (case rel=>refine ⟨k+1,Rg.pv c,Rg.iy c x P,Rg.iy c x Q,aj,hpv,aN,rfl,hid (AO ig.out aj _ _ _),hid (LJ LU.out aj _ _ _),hid (LJ Xm.out aj _ _ _),hid ?_,Xk,lD,Xl⟩;rw [←uH.out,←AQ.out];exact AJ sj.out _ _ _);case measure=>simp [intOf];omega
  {obtain rfl:k=3:=aj;have hw:Rg.dV t=(c,P,Q):=(by rw [←HW.out];rfl);have AP:=hid hw;have d0:=HF.out.cell (i:=0) rfl;have d1:=HF.out.cell (i:=1) rfl;have d2:=HF.out.cell (i:=2) rfl;have r0:=HY.out.cell (i:=0) rfl;have r1:=HY.out.cell (i:=1) rfl;have r2:=HY.out.cell (i:=2) rfl;have s0:=HY.out.free 0;have s1:=HY.out.free 1;have s2:=HY.out.free 2;clear hw;go_wp2;have HZ:=hid (AJ HY.out (.int .i64 c) (.int .i64 (l.countP P:Nat)) (.int .i64 (l.countP Q:Nat)));exact bodyPost_ret (v:=fv l (c,P,Q)) (LM rfl HZ.out results78) rfl ⟨by rw [AP.out],AO HB.out aj _ _ _⟩}
def Em (t:Rg.T) (d:Nat) (v:Int):Rg.T:=if d=0 then (v,t.2.1,t.2.2) else if d=1 then (t.1,v,t.2.2) else (t.1,t.2.1,v)
theorem Xn (t:Rg.T) (d:Nat) (v:Int) (h:d<3):(tl t).set d (.int .i64 v)=tl (Em t d v):=by rcases Rg.c3 h with rfl | rfl | rfl <;> rfl
theorem at_set (t:Rg.T) (d e:Nat) (v:Int) (h:d<3) (k:e<3):Rg.at' (Em t d v) e=if e=d then v else Rg.at' t e:=by rcases Rg.c3 h with rfl | rfl | rfl <;> rcases Rg.c3 k with rfl | rfl | rfl <;> rfl
theorem Xo {a b:Rg.T} (h:∀ d,d<3→Rg.at' a d=Rg.at' b d):a=b:=Rg.ext (h 0 aj) (h 1 aj) (h 2 aj)
def fH (c k:Nat):Nat:=(c+2*k) % 3
theorem En (c k:Nat):fH c k<3:=Nat.mod_lt _ aH
theorem LV (c:Nat) (h:c<3):fH c 0=c:=by unfold fH;omega
theorem LX (c k:Nat):Rg.pv (fH c k)=fH c (k+1):=by unfold fH Rg.pv;omega
theorem Xp {l:List Rg.T} {c i:Nat} {t:Rg.T} (h:(Rg.O l c)[i]?=some t) (ht:Rg.Ok t):(((Rg.A l c).getD i 0:Nat):Int)=Rg.at' t (Rg.pv c):=by unfold Rg.A;rw [List.getD,List.getElem?_map,h];have:=ht (Rg.pv c) (Rg.nD c);simp;omega
theorem Xq (w:World):∃ w1,w1=(w.alloc (.cells #[.int .i64 0,.int .i64 0,.int .i64 0] 77)).alloc (.cells #[.int .i64 0,.int .i64 0,.int .i64 0] 77)∧Hid (ak w1 w.heap.size (tl (0,0,0)) 77)∧Hid (ak w1 (w.heap.size+1) (tl (0,0,0)) 77)∧Hid (Below w.heap.size w w1):=
 ⟨_,rfl,(ak.new w (tl (0,0,0)) 77).alloc _,ak.new' aC rfl,((Below.refl _ _).alloc ay _).alloc aC _⟩
theorem Xr (p c i:Nat) (l:List Rg.T) (t:Rg.T) (w:World) (h:kI w p l) (hc:c<3) (hi:(Rg.O l c)[i]?=some t) :
  Calls prog 79 #[.pointer (some ⟨p,0,none⟩),.int .i64 c,.int .i64 i] w fun e w'=>e=.returned (tv t)∧Below w.heap.size w w':=by
 have hil:i<l.length:=by have:=(List.getElem?_eq_some_iff.1 hi).1;rwa [Rg.lW] at this
 obtain ⟨hidx,hmem⟩:=Rg.Vg hc h.nodup hil hi;have HR:=hid h;have HM:=hid hmem;have pJ:=hid h.nodup;have gJ:=hid (h.2.1 t hmem);have HL:=hid (show l.length≤100 from h.2.2.1);have AH:=hid fun c hc W=>xq c hc W;have HI:=hid hidx;clear h hmem hi hidx;go_enter func79,ntmps79;go_upto_region 2 with fail
 obtain ⟨w1,hw1,HX,HY,HB⟩:=Xq w;rw [show (w.alloc (.cells #[.int .i64 0,.int .i64 0,.int .i64 0] 77)).alloc (.cells #[.int .i64 0,.int .i64 0,.int .i64 0] 77)=w1 from hw1.symm];clear hw1;go_wp2;go_loopw [9,1,2] (fun s9 s1 s2 wr=>∃ (k:Nat) (tc:Rg.T),k≤3∧s9=.int .i64 k∧s1=.int .i64 (fH c k:Nat)∧s2=.int .i64 (l.countP (fun s=>decide (Rg.iq (fH c k) s t)):Nat)∧Hid (Below w.heap.size w wr)∧Hid (ak wr w.heap.size (tl (0,0,0)) 77)∧Hid (ak wr (w.heap.size+1) (tl tc) 77)∧Hid (∀ j,1≤j→j≤k→Rg.at' tc (fH c j)=Rg.at' t (fH c j))) (fun s9 _ _ _=>3-(intOf s9).toNat)
 case atStart=>refine ⟨0,(0,0,0),aj,rfl,by rw [LV c hc],?_,HB.out,HX.out,HY.out,fun j h1 h2=>aj⟩;rw [LV c hc,HI.out]
 case round=>
  obtain ⟨k,tc,hk,rfl,rfl,rfl,HB,HX,HY,HD⟩:=hrel;have hcl:=HL.out;have hck:=En c k;obtain ⟨q1,q2⟩:=Rg.Vf hck pJ.out HM.out;by_cases hlt:k<3
  · have xu:=HR.out.keep HB.out;obtain ⟨_,_,_,pw,h4⟩:=xu;obtain ⟨c0,hwv⟩:=h4 _ hck;have ha:=Xp q2 gJ.out;have hst:=AB p (fH c k) l (fun s=>decide (Rg.iq (fH c k) s t)) (Rg.at' t (Rg.pv (fH c k))) wr;have hP:Rg.iy (fH c k) (Rg.at' t (Rg.pv (fH c k))) (fun s=>decide (Rg.iq (fH c k) s t))=fun s=>decide (Rg.iq (Rg.pv (fH c k)) s t):=funext fun s=>Rg.Vi hck s t;have hv:=gJ.out (Rg.pv (fH c k)) (Rg.nD _);have WA:=Wj (pw (fH c k)) 10 (l.countP (fun s=>decide (Rg.iq (fH c k) s t))) (Rg.A l (fH c k)) wr hwv (by rw [Rg.uy];exact q1);rw [ha] at WA;have ST:=hid fun W (hb:Below wr.heap.size wr W)=>AB p (fH c k) l (fun s=>decide (Rg.iq (fH c k) s t)) (Rg.at' t (Rg.pv (fH c k))) W ((HR.out.keep HB.out).keep hb) hck (Rg.Vh t) aj;rw [hP] at ST;have hd:=En c (k+1);rw [LX] at WA ST hv;obtain ⟨x,hx⟩:=aA (Rg.at' t (fH c (k+1)));rw [←hx] at WA ST hv;have Eo:=hid hx;clear hst hP q2 ha hwv h4 hx;have LY:=hid fun W=>AH.out (fH c k) hck W;rw [LX] at LY;have ST0:=ST.out wr (Below.refl _ _);generalize hi0:l.countP (fun s=>decide (Rg.iq (fH c k) s t))=i0 at *;generalize hi1:l.countP (fun s=>decide (Rg.iq (fH c (k+1)) s t))=i1 at *;have HI1:=hid hi1;clear hi0 hi1 ST0;(go_upto_region 5 with (go_at_call 116;refine WA.mono ?_;rintro e w2 ⟨rfl,hb2⟩));have ST2:=ST.out w2 hb2;have HB2:=hid hb2;clear ST WA;(go_upto_region 6 with (go_at_call 115;refine ST2.mono ?_;rintro e w3 ⟨rfl,hb3⟩));have mR:=hid (HY.out.keep (aG HB2.out hb3));have jI:=hid (HX.out.keep (aG HB2.out hb3));have HB3:=hid (aG HB.out (aG HB2.out hb3));have c1:=mR.out.cell (nI tc _ hd);have f1:=mR.out.free (fH c (k+1));clear ST2 hb3 HY HX HB HB2 hb2 c0;generalize hdd:fH c (k+1)=d at *;have mU:=hid hdd;clear hdd;(go_wp2_with (go_at_call 114;refine (LY.out _).mono ?_;rintro e w' ⟨rfl,fU⟩;have hw2:=fU.symm;subst hw2));go_roundw
    (case rel=>refine ⟨k+1,Em tc d x,aj,aN,by rw [mU.out],by rw [mU.out,HI1.out],HB3.out.setCell (by show w.heap.size≤w.heap.size+1;omega) _,jI.out.other aj _ _,?_,?_⟩;{rw [←Xn _ _ _ hd];exact mR.out.set d _};{intro j h1 h2;have hj:=En c j;rw [at_set _ _ _ _ hd hj];split;{rename_i e;rw [e];exact Eo.out};{rename_i e;refine HD.out j h1 ?_;have:j≠k+1:=(by intro e';apply e;rw [e'];exact mU.out);omega}});case measure=>simp [intOf];omega
  {obtain rfl:k=3:=aj;have hte:tc=t:=Xo fun d hd=>(by obtain ⟨j,h1,h2,h3⟩:∃ j,1≤j∧j≤3∧fH c j=d:=(by rcases Rg.c3 hc with rfl | rfl | rfl <;> rcases Rg.c3 hd with rfl | rfl | rfl;{exact ⟨3,aj,aj,rfl⟩};{exact ⟨2,aj,aj,rfl⟩};{exact ⟨1,aj,aj,rfl⟩};{exact ⟨1,aj,aj,rfl⟩};{exact ⟨3,aj,aj,rfl⟩};{exact ⟨2,aj,aj,rfl⟩};{exact ⟨2,aj,aj,rfl⟩};{exact ⟨1,aj,aj,rfl⟩};{exact ⟨3,aj,aj,rfl⟩});rw [←h3];exact HD.out j h1 h2);subst hte;have d0:=(kH HY.out).1;have d1:=(kH HY.out).2.1;have d2:=(kH HY.out).2.2;have r0:=HX.out.cell (i:=0) rfl;have r1:=HX.out.cell (i:=1) rfl;have r2:=HX.out.cell (i:=2) rfl;have s0:=HX.out.free 0;have s1:=HX.out.free 1;have s2:=HX.out.free 2;clear q1 q2;go_wp2;have HZ:=hid (AJ HX.out (.int .i64 tc.1) (.int .i64 tc.2.1) (.int .i64 tc.2.2));exact bodyPost_ret (v:=tv tc) (Lx rfl HZ.out results79) rfl ⟨rfl,AO HB.out aj _ _ _⟩}
theorem Xt (t:Rg.T) (c:Nat) (hc:c<3) (w:World):(Instr.index 77 (.agg #[.int .i64 t.1,.int .i64 t.2.1,.int .i64 t.2.2]) (.int .i64 c)).run prog w=.ok (.int .i64 (Rg.at' t c)) w:=by rcases Rg.c3 hc with rfl | rfl | rfl <;> simp [Instr.index,run_underlying underlying77,asIntOf,go_sem,Rg.at',sizeOf3,isAgg3]
end Go.Proofs.YtjaebndajhppgaaGreatDoor
