/-LayG-/
import Derived.Test.YtjaebndajhppgaaGreatDoorMfHd1
import Derived.Test.YtjaebndajhppgaaGreatDoorMfGRg1
import Derived.Test.YtjaebndajhppgaaGreatDoorMfGB
import Derived.Shelf.Abstract
import Derived.Deep.DeepCutAuto
import Derived.Sort.Grow
import Derived.Test.YtjaebndajhppgaaGreatDoorMfGRg3
import Derived.Laws.StructEq
import Derived.Shelf.SlGeneric
import Derived.Shelf.SlSortCmp.NoneTotal
import Derived.Shelf.SlicesE.Clone
import Derived.Ground.SlsfProg
import Derived.Ground.SlgnProg
import Derived.Shelf.SlSortCmp.InsertionK
import Derived.Test.YtjaebndajhppgaaGreatDoorProg
set_option linter.unusedVariables false
set_option linter.unusedSimpArgs false
set_option maxRecDepth 100000
set_option maxHeartbeats 1000000
namespace Go.Proofs.YtjaebndajhppgaaGreatDoor.Rg
theorem abD {l:List T} (hn:l.Nodup) (p:T) (i:Nat) (h:i<l.countP (dN p).2.2-l.countP (dN p).2.1):(O l (dN p).1)[l.countP (dN p).2.1+i]?=((O l (dN p).1).filter (mt p))[i]?:=by rw [←aaF hn p,List.getElem?_drop,List.getElem?_take_of_lt ak]
theorem oO {l:List T} (p:T):((O l (dN p).1).filter (mt p)).length=l.countP (dN p).2.2-l.countP (dN p).2.1:=by rw [←List.countP_eq_length_filter,(je l _).countP_eq];have:=count_eq l p;omega
theorem abE (t:T):mt (0,0,0) t=true:=by simp [mt]
end Go.Proofs.YtjaebndajhppgaaGreatDoor.Rg
namespace Go.Proofs.YtjaebndajhppgaaGreatDoor
open Go.Proofs.Tryz
open Go.ChangeShapes Go.WideShapes Go.ChangeAt Go.RowKit
def tl (t:Rg.T):List Value:=[.int .i64 t.1,.int .i64 t.2.1,.int .i64 t.2.2]
def tv (t:Rg.T):Value:=.agg #[.int .i64 t.1,.int .i64 t.2.1,.int .i64 t.2.2]
theorem nU (t:Rg.T) (i:Nat) (h:i<3):(tl t)[i]?=some (.int .i64 (Rg.at' t i)):=by
 match i,h with
 | 0,_=>rfl
 | 1,_=>rfl
 | 2,_=>rfl
theorem abF (c:Nat) (hc:c<3) (w:World):Calls prog 224 #[.int .i64 c] w fun e w'=>e=.returned (.int .i64 (Rg.nx c:Nat))∧w'=w:=by go_enter func224,ntmps224;go_wp2;go_ret;rcases Rg.c3 hc with rfl | rfl | rfl <;> exact ⟨rfl,rfl⟩
theorem zC (c:Nat) (hc:c<3) (w:World):Calls prog 114 #[.int .i64 c] w fun e w'=>e=.returned (.int .i64 (Rg.pv c:Nat))∧w'=w:=by go_enter func114,ntmps114;go_wp2;go_ret;rcases Rg.c3 hc with rfl | rfl | rfl <;> exact ⟨rfl,rfl⟩
theorem abG (x:Int) (w:World):Calls prog 203 #[.int .i64 x] w fun e w'=>e=.returned (.bool false)∧w'=w:=by go_enter func203,ntmps203;go_wp2;go_ret;exact ⟨aI,rfl⟩
def ci (x y:Int):Int:=if x<y then -1 else if y<x then 1 else 0
theorem abH (x y:Int) (w:World):Calls prog 169 #[.int .i64 x,.int .i64 y] w fun e w'=>e=.returned (.int .i64 (ci x y))∧w'=w:=by
 go_enter func169,ntmps169;go_wp2_with (go_at_call 203;refine (abG _ _).mono ?_;rintro e w' ⟨rfl,rfl⟩)
 all_goals (go_ret;refine ⟨?_,rfl⟩;unfold ci;(repeat' split) <;> first | rfl | (exfalso;omega))
theorem abI (x y:Rg.T) (b1 b2:Nat) (t1 t2:TypeId) (w:World) (h1:aC w b1 (tl x) t1) (h2:aC w b2 (tl y) t2) :
  Calls prog 119 #[.slice (some ⟨b1,0,none⟩) 3 3,.slice (some ⟨b2,0,none⟩) 3 3] w fun e w'=>e=.returned (.int .i64 (Rg.cmp x y))∧w'=w:=by
 have H1:=aj fun i (h:i<3)=>h1.cell (nU x i h);have H2:=aj fun i (h:i<3)=>h2.cell (nU y i h);clear h1 h2;go_enter func119,ntmps119;go_wp2;go_loopw [11] (fun s11 wr=>∃ i:Nat,i≤3∧s11=.int .i64 i∧wr=w∧Hid (∀ j,j<i→Rg.at' x j=Rg.at' y j)) (fun s11 _=>3-(intOf s11).toNat)
 case atStart=>exact ⟨0,ak,rfl,rfl,fun j hj=>absurd hj (Nat.not_lt_zero _)⟩
 case round=>
  obtain ⟨i,hi,rfl,dS,HE⟩:=hrel;subst dS;by_cases hlt:i<3
  · have c1:=H1.out i hlt;have c2:=H2.out i hlt;have IC:=abH (Rg.at' x i) (Rg.at' y i) wr;by_cases hc:ci (Rg.at' x i) (Rg.at' y i)=0
    · rw [hc] at IC;have HC:=aj hc;clear hc;(go_wp2_with (go_at_call 169;refine IC.mono ?_;rintro e w' ⟨rfl,rfl⟩));go_roundw
      (case rel=>refine ⟨i+1,ak,aN,trivial,fun j hj=>?_⟩;by_cases hji:j<i;{exact HE.out j hji};{obtain rfl:j=i:=ak;have:=HC.out;unfold ci at this;split at this;{omega};{split at this <;> omega}});case measure=>simp [intOf];omega
    {have hr:ci (Rg.at' x i) (Rg.at' y i)=Rg.cmp x y:=(by have he:=HE.out;unfold ci at hc ⊢;unfold Rg.cmp;have e0:=he 0;have e1:=he 1;obtain ⟨x0,x1,x2⟩:=x;obtain ⟨y0,y1,y2⟩:=y;rcases Rg.c3 hlt with rfl | rfl | rfl <;> simp [Rg.at'] at * <;> (repeat' split) <;> first | rfl | omega | (exfalso;omega));have HR:=aj hr;clear hr;generalize ci (Rg.at' x i) (Rg.at' y i)=r at *;(go_wp2_with (go_at_call 169;refine IC.mono ?_;rintro e w' ⟨rfl,rfl⟩));go_ret;exact ⟨by rw [HR.out];rfl,rfl⟩}
  {obtain rfl:i=3:=ak;have hr:Rg.cmp x y=0:=(by have he:=HE.out;have e0:=he 0 ak;have e1:=he 1 ak;have e2:=he 2 ak;simp only [Rg.at'] at e0 e1 e2;unfold Rg.cmp;simp at e0 e1 e2;simp [e0,e1,e2]);have HR:=aj hr;clear hr;go_wp2;go_ret;exact ⟨by rw [HR.out];rfl,rfl⟩}
def Dr (w w':World):Prop:=∃ q,w'.drawn=w.drawn+q
theorem Dr.refl (w:World):Dr w w:=⟨0,rfl⟩
theorem Dr.trans {a b c:World} (h:Dr a b) (k:Dr b c):Dr a c:=by obtain ⟨p,hp⟩:=h;obtain ⟨q,hq⟩:=k;exact ⟨p+q,by rw [hq,hp,Nat.add_assoc]⟩
theorem Dr.alloc {a b:World} (h:Dr a b) (o:Obj):Dr a (b.alloc o):=h
theorem Dr.drewN {a b:World} (h:Dr a b) (n:Nat):Dr a (b.drewN n):=by obtain ⟨p,hp⟩:=h;exact ⟨p+n,by show b.drawn+n=_;rw [hp,Nat.add_assoc]⟩
theorem Dr.setCell {a b:World} (h:Dr a b) (x:Addr) (v:Value):Dr a (b.setCell x v):=by obtain ⟨p,hp⟩:=h;exact ⟨p,by rw [←hp];rfl⟩
theorem Qe {fn:Func} {tmps:Array Value} {Z:World} {b k:Nat} {v0 v1 v2:Value} (ht:tmps.getD k undef=.pointer (some ⟨b,0,none⟩)) (hZ:aC Z b [v0,v1,v2] 77) (hf:fn.results=#[.cell k 77]) :
  (results fn tmps).run prog Z=.ok (.agg #[v0,v1,v2]) Z:=by
 obtain ⟨h0,h1,h2⟩:=bO hZ;have ht':tmps[k]?.getD undef=.pointer (some ⟨b,0,none⟩):=by simpa using ht
 simp [results,hf,ht',go_sem,h0,h1,h2]
theorem DR (w:World) (t:Rg.T):∃ w1,w1=w.alloc (.cells #[.int .i64 t.1,.int .i64 t.2.1,.int .i64 t.2.2] 77)∧Hid (aC w1 w.heap.size (tl t) 77)∧Hid (Below w.heap.size w w1)∧Hid (Dr w w1)∧w1.heap.size=w.heap.size+1:=
 ⟨_,rfl,aC.new w (tl t) 77,(Below.refl _ _).alloc aF _,Dr.alloc (Dr.refl _) _,aI⟩
theorem ko {w:World} {b:Nat} {t:Rg.T} (h:aC w b (tl t) 77):w.cell? ⟨b,0,none⟩=some (.int .i64 t.1)∧w.cell? ⟨b,1,none⟩=some (.int .i64 t.2.1)∧w.cell? ⟨b,2,none⟩=some (.int .i64 t.2.2):=
 ⟨h.cell rfl,h.cell rfl,h.cell rfl⟩
theorem Hf (w:World) (x y:Rg.T):∃ w1,w1=(w.alloc (.cells #[.int .i64 x.1,.int .i64 x.2.1,.int .i64 x.2.2] 77)).alloc (.cells #[.int .i64 y.1,.int .i64 y.2.1,.int .i64 y.2.2] 77)∧Hid (aC w1 w.heap.size (tl x) 77)∧Hid (aC w1 (w.heap.size+1) (tl y) 77)∧Hid (Below w.heap.size w w1)∧Hid (Dr w w1):=by refine ⟨_,rfl,(aC.new w (tl x) 77).alloc _,aC.new' aI rfl,((Below.refl _ _).alloc aF _).alloc aI _,Dr.alloc (Dr.alloc (Dr.refl _) _) _⟩
theorem Hg (x y:Rg.T) (w:World):Calls prog 81 #[tv x,tv y] w fun e w'=>e=.returned (.int .i64 (Rg.cmp x y))∧Below w.heap.size w w'∧Dr w w':=by
 unfold tv;go_enter func81,ntmps81;go_upto_region 1 with fail
 obtain ⟨w1,hw1,HX,HY,HB,HD⟩:=Hf w x y;rw [←hw1];clear hw1;have SC:=aj fun q=>abI x y w.heap.size (w.heap.size+1) 77 77 (w1.drewN q) (HX.out.drewN q) (HY.out.drewN q);go_quiet ((go_at_call 119;exact mO fun W hW=>by rw [hW];exact SC.out _))
 go_wp2;go_ret;exact ⟨rfl,bn HB.out _,HD.out.drewN _⟩
theorem Qf (t:Rg.T) (c:Nat) (hc:c<3) (w:World):Calls prog 182 #[tv t,.int .i64 c] w fun e w'=>e=.returned (tv (Rg.iB c t))∧Below w.heap.size w w'∧Dr w w':=by
 unfold tv;have BH:=aj fun W=>abF c hc W;have AH:=aj fun W=>zC c hc W;go_enter func182,ntmps182;go_upto_region 1 with fail
 obtain ⟨w1,hw1,HX,HY,HB,HD⟩:=Hf w t (0,0,0);rw [show (w.alloc (.cells #[.int .i64 t.1,.int .i64 t.2.1,.int .i64 t.2.2] 77)).alloc (.cells #[.int .i64 0,.int .i64 0,.int .i64 0] 77)=w1 from hw1.symm];clear hw1;have c0:=HX.out.cell (nU t c hc);have c1:=HX.out.cell (nU t (Rg.nx c) (Nat.mod_lt _ aL));have c2:=HX.out.cell (nU t (Rg.pv c) (Rg.nR c));have hnx:Rg.nx c<3:=Nat.mod_lt _ aL;have hpv:Rg.pv c<3:=Rg.nR c;refine Cb 12 aG aG ?_;simp only [List.take_succ_cons,List.take_zero,List.drop_succ_cons,List.drop_zero];repeat (go_big_quiet_step (first | (go_at_call 224;exact mO fun W hW=>BH.out W) | (go_at_call 114;exact mO fun W hW=>AH.out W)))
 refine wpQuiet_nil ?_;rintro _ ⟨nq,rfl⟩;obtain ⟨W,hW⟩:=aB (w1.drewN nq);rw [←hW];have qz:aC W (w.heap.size+1) (tl (0,0,0)) 77:=by rw [hW];exact HY.out.drewN nq
 have HB2:=aj (show Below w.heap.size w W by rw [hW];exact bn HB.out nq);have HD2:=aj (show Dr w W by rw [hW];exact HD.out.drewN nq);obtain ⟨d0,d1,d2⟩:=bO qz;obtain ⟨f0,f1,f2⟩:=eX qz;have kZ:=aj qz;clear hW c0 c1 c2 qz;go_wp2;have HZ:=aj (((kZ.out.set 0 (.int .i64 (Rg.at' t c))).set 1 (.int .i64 (Rg.at' t (Rg.nx c)))).set 2 (.int .i64 (Rg.at' t (Rg.pv c))));exact bodyPost_ret (v:=.agg #[.int .i64 (Rg.at' t c),.int .i64 (Rg.at' t (Rg.nx c)),.int .i64 (Rg.at' t (Rg.pv c))]) (Qe rfl HZ.out results182) rfl ⟨rfl,((HB2.out.setCell aI _).setCell aI _).setCell aI _,((HD2.out.setCell _ _).setCell _ _).setCell _ _⟩
structure dV (w:World) where
 it:World
 low:Below w.heap.size w it
 dr:Dr w it
instance {w:World}:Nonempty (dV w):=⟨⟨w,Below.refl _ w,Dr.refl w⟩⟩
theorem DT {P:Program} {id:Nat} {Q:Exit→Act→World→Prop} {a:Act} {w:World} {l:List Oper} (hm:P.follows .mixedOrders=true) (hB:Region.lexB .any l.toArray=true)
  (h:wpQuiet P l.toArray (fun w'=>∃ p:dV w,w'=p.it) (fun a'=>∀ w',(∃ p:dV w,w'=p.it)→Q .normal a' w') l a):(Code.region id l.toArray true).wp P Q a w:=
 wp_region_quiet (C:=fun w'=>∃ p:dV w,w'=p.it) hm hB ⟨⟨_,(Below.refl _ w).drew,⟨1,rfl⟩⟩,rfl⟩ (by simpa using h)
theorem dV.call {P:Program} {f:FuncId} {args:Array Value} {w:World} {p:dV w} {v:Value}
  (h:Calls P f args p.it fun e w'=>e=.returned v∧Below p.it.heap.size p.it w'∧Dr p.it w'):Calls P f args p.it fun e w''=>e=.returned v∧∃ q:dV w,w''=q.it:=
 h.mono fun _ _ ⟨he,hb,hd⟩=>⟨he,⟨_,aJ p.low hb,p.dr.trans hd⟩,rfl⟩
theorem dV.keep {w:World} (p:dV w) {b o:Nat} {v:Value} (hc:w.cell? ⟨b,o,none⟩=some v):p.it.cell? ⟨b,o,none⟩=some v:=aD p.low hc
theorem Hl {w w':World} (h:Below w.heap.size w w') (d:Dr w w'):∃ q os,w'=Go.Sort.grow (w.drewN q) os:=by
 obtain ⟨q,hq⟩:=d;refine ⟨q,w'.heap.extract w.heap.size w'.heap.size,?_⟩;have hh:w'.heap=w.heap++w'.heap.extract w.heap.size w'.heap.size:=by apply Array.ext_getElem?;intro k;rw [Array.getElem?_append];split;{rename_i hk;exact h.block k hk};{rename_i hk;rw [Array.getElem?_extract];have hs:=h.size;by_cases hk2:k<w'.heap.size;{rw [if_pos ak,show w.heap.size+(k-w.heap.size)=k by omega]};{rw [if_neg ak,Array.getElem?_eq_none ak]}}
 obtain ⟨h1,h2,h3,h4,h5⟩:=w';have e1:=h.tape;have e2:=h.os;have e3:=h.output;simp only at e1 e2 e3 hq hh;subst e1 e2 e3 hq;unfold Go.Sort.grow World.drewN;simp only [World.mk.injEq,and_true,true_and];exact hh
theorem abJ (x y:Rg.T) (c bc:Nat) (hc:c<3) (w:World) (hb:w.cell? ⟨bc,0,none⟩=some (.int .i64 c)) :
  Calls prog 181 #[tv x,tv y,.pointer (some ⟨bc,0,none⟩)] w fun e w'=>e=.returned (.int .i64 (Rg.cf c x y))∧Below w.heap.size w w'∧Dr w w':=by
 unfold tv;go_enter func181,ntmps181;go_upto_region 1 with fail
 obtain ⟨w1,hw1,HX,HY,HB,HD⟩:=Hf w x y;rw [←hw1];clear hw1;have g0:=fun q:dV w1=>q.keep (aD HB.out hb);have g1:=fun q:dV w1=>q.keep (ko HX.out).1;have g2:=fun q:dV w1=>q.keep (ko HX.out).2.1;have g3:=fun q:dV w1=>q.keep (ko HX.out).2.2;have g4:=fun q:dV w1=>q.keep (ko HY.out).1;have g5:=fun q:dV w1=>q.keep (ko HY.out).2.1;have g6:=fun q:dV w1=>q.keep (ko HY.out).2.2;have T1:=aj fun q:dV w1=>Qf x c hc q.it;have T2:=aj fun q:dV w1=>Qf y c hc q.it;have CM:=aj fun q:dV w1=>Hg (Rg.iB c x) (Rg.iB c y) q.it;unfold tv at T1 T2 CM;have hcf:Rg.cmp (Rg.iB c x) (Rg.iB c y)=Rg.cf c x y:=rfl;rw [hcf] at CM;generalize Rg.iB c x=rx at *;generalize Rg.iB c y=ry at *;obtain ⟨r,hr⟩:=aB (Rg.cf c x y);rw [←hr] at CM;have HR:=aj hr;clear hb HX HY hr;refine DT aG aG ?_;repeat (go_big_quiet_step (first | (go_at_call 182;with_reducible exact dV.call (T1.out _)) | (go_at_call 182;with_reducible exact dV.call (T2.out _)) | (go_at_call 81;with_reducible exact dV.call (CM.out _))))
 refine wpQuiet_nil ?_;rintro _ ⟨q,rfl⟩;go_wp2;go_ret;exact ⟨by rw [←HR.out];rfl,aJ HB.out q.low,HD.out.trans q.dr⟩
def kr (w:World) (p:Nat) (l:List Rg.T):Prop:=l.Pairwise Rg.lt∧(∀ t∈l,Rg.Ok t)∧l.length≤100∧∃ pw:Nat→Nat,∀ c,c<3→w.cell? ⟨p,c,none⟩=some (.pointer (some ⟨pw c,0,none⟩))∧j_ w (pw c) (Rg.A l c) 10
theorem kr.keep {w w':World} {p:Nat} {l:List Rg.T} (h:kr w p l) (hb:Below w.heap.size w w'):kr w' p l:=by obtain ⟨h1,h2,h3,pw,h4⟩:=h;exact ⟨h1,h2,h3,pw,fun c hc=>⟨aD hb (h4 c hc).1,(h4 c hc).2.keep hb⟩⟩
theorem kr.nodup {w:World} {p:Nat} {l:List Rg.T} (h:kr w p l):l.Nodup:=h.1.imp fun {a b} hab=>by intro e;subst e;exact Rg.lt_irrefl _ hab
theorem Qg (p wd:Nat) (l:List Nat) (w:World) (h:j_ w p l wd):Calls prog 77 #[.pointer (some ⟨p,0,none⟩)] w fun e w'=>e=.returned (.int .i64 l.length)∧w'=w:=by obtain ⟨_,_,_,ad,cap,c0,_⟩:=h;exact GL p _ w c0
theorem abK (p:Nat) (l:List Rg.T) (w:World) (h:kr w p l):Calls prog 37 #[.pointer (some ⟨p,0,none⟩)] w fun e w'=>e=.returned (.int .i64 l.length)∧w'=w:=by
 obtain ⟨_,_,_,pw,h4⟩:=h;have c0:=(h4 0 ak).1;have WL:=Qg (pw 0) 10 _ w (h4 0 ak).2;rw [Rg.wB] at WL;clear h4;go_enter func37,ntmps37;go_wp2_with (go_at_call 77;refine WL.mono ?_;rintro e w' ⟨rfl,rfl⟩)
 go_ret;exact ⟨rfl,rfl⟩
theorem DU (p c:Nat) (l:List Rg.T) (P:Rg.T→Bool) (v:Int) (w:World) (h:kr w p l) (hc:c<3) (hP:Rg.Lower c P) (hv:-9223372036854775808≤v) :
  Calls prog 115 #[.pointer (some ⟨p,0,none⟩),.int .i64 c,.int .i64 (l.countP P:Nat),.int .i64 v] w fun e w'=>e=.returned (.int .i64 (l.countP (Rg.h_ c v P):Nat))∧Below w.heap.size w w':=by
 have hnd:=h.nodup;obtain ⟨h1,h2,h3,pw,h4⟩:=h;obtain ⟨c0,hw⟩:=h4 c hc;have hs:=Rg.step_eq hc hnd h2 hP v;have hcp:l.countP P≤l.length:=List.countP_le_length;have hcp2:l.countP (Rg.h_ c v P)≤l.length:=List.countP_le_length;have hal:=Rg.wB l c;have WL:=aj fun W (hb:Below w.heap.size w W)=>Qg (pw c) 10 _ W (hw.keep hb);have WC:=aj fun W (hb:Below w.heap.size w W)=>Pt (pw c) 10 _ 0 l.length v 1000 W (hw.keep hb) ak;have WR:=aj fun W (hb:Below w.heap.size w W)=>aa_ (pw c) 10 _ v (l.countP P:Nat) W (hw.keep hb) hv;rw [Wv.aax,hal] at WC WR;rw [hal] at WL;have e1:Wv.jr l.length (l.length:Int)=l.length:=by unfold Wv.jr;omega
 have e2:Wv.jr l.length ((l.countP P:Nat):Int)=l.countP P:=by unfold Wv.jr;omega
 rw [e1] at WC;rw [e2] at WR;have e3:(Rg.A l c).take l.length=Rg.A l c:=by rw [←hal,List.take_length]
 rw [e3] at WC;have k1:=Wv.OH (Rg.A l c) v 1000;have k2:=Wv.OH ((Rg.A l c).take (l.countP P)) v v;rw [hal] at k1;rw [List.length_take] at k2;have hs2:(l.length:Int)-(Wv.kV (Rg.A l c) v 1000:Nat)+(Wv.kV ((Rg.A l c).take (l.countP P)) v v:Nat)=(l.countP (Rg.h_ c v P):Nat):=hs;generalize Wv.kV (Rg.A l c) v 1000=x1 at *;generalize Wv.kV ((Rg.A l c).take (l.countP P)) v v=x2 at *;generalize l.countP (Rg.h_ c v P)=r at *;generalize l.countP P=i at *;have HS:=aj hs2;clear h1 h2 h4 hs hs2 hw e1 e2 e3 hP hal hnd;go_enter func115,ntmps115;go_upto_region 2 with fail
 have WL0:=WL.out w (Below.refl _ _);have WC0:=WC.out w (Below.refl _ _);go_wp2_with (first | (go_at_call 77;refine WL0.mono ?_;rintro e w' ⟨rfl,rfl⟩) | (go_at_call 154;refine WC0.mono ?_;rintro e w2 ⟨rfl,hb2⟩))
 go_wp2_with ((go_at_call 155;refine (WR.out w2 hb2).mono ?_;rintro e w3 ⟨rfl,hb3⟩))
 go_ret;exact ⟨by rw [HS.out];rfl,aJ hb2 hb3⟩
theorem abL (t:Rg.T) (w:World):Calls prog 113 #[tv t] w fun e w'=>e=.returned (.int .i64 (Rg.start t:Nat))∧Below w.heap.size w w':=by
 unfold tv;have AH:=aj fun c hc W=>zC c hc W;go_enter func113,ntmps113;go_upto_region 1 with fail
 obtain ⟨w1,hw1,HX,HB,HD,hz⟩:=DR w t;rw [←hw1];clear hw1;go_wp2;go_loopw [4] (fun s4 wr=>∃ i:Nat,i≤3∧s4=.int .i64 i∧wr=w1∧Hid (∀ j,j<i→¬ (Rg.at' t j=0∧Rg.at' t (Rg.pv j)≠0))) (fun s4 _=>3-(intOf s4).toNat)
 case atStart=>exact ⟨0,ak,rfl,rfl,fun j hj=>absurd hj (Nat.not_lt_zero _)⟩
 case round=>
  obtain ⟨i,hi,rfl,dS,HE⟩:=hrel;subst dS;by_cases hlt:i<3
  · have hpv:=Rg.nR i;have c0:=HX.out.cell (nU t i hlt);have c1:=HX.out.cell (nU t (Rg.pv i) hpv);by_cases h0:Rg.at' t i=0
    · rw [h0] at c0;by_cases h1:Rg.at' t (Rg.pv i)=0
      · rw [h1] at c1;have H1:=aj h1;clear h0 h1;(go_wp2_with (go_at_call 114;refine (AH.out _ hlt _).mono ?_;rintro e w' ⟨rfl,rfl⟩));go_roundw
        (case rel=>refine ⟨i+1,ak,aN,trivial,fun j hj=>?_⟩;by_cases hji:j<i;{exact HE.out j hji};{obtain rfl:j=i:=ak;intro h;exact h.2 H1.out});case measure=>simp [intOf];omega
      {have H0:=aj h0;have H1:=aj h1;clear h0;(go_wp2_with (go_at_call 114;refine (AH.out _ hlt _).mono ?_;rintro e w' ⟨rfl,rfl⟩));go_ret;refine ⟨?_,HB.out⟩;have he:=HE.out;have hs:Rg.start t=i:=(by have a0:=H0.out;have a1:=H1.out;have b0:=he 0;have b1:=he 1;unfold Rg.start;rcases Rg.c3 hlt with rfl | rfl | rfl <;> simp [Rg.at',Rg.pv] at a0 a1 b0 b1 ⊢ <;> (repeat' split) <;> first | rfl | omega);rw [hs];rfl}
    · have H0:=aj h0;(go_wp2_with (go_at_call 114;refine (AH.out _ hlt _).mono ?_;rintro e w' ⟨rfl,rfl⟩));go_roundw
      (case rel=>refine ⟨i+1,ak,aN,trivial,fun j hj=>?_⟩;by_cases hji:j<i;{exact HE.out j hji};{obtain rfl:j=i:=ak;intro h;exact H0.out h.1});case measure=>simp [intOf];omega
  {obtain rfl:i=3:=ak;have hs:Rg.start t=0:=(by have b0:=HE.out 0 ak;have b1:=HE.out 1 ak;have b2:=HE.out 2 ak;unfold Rg.start;simp [Rg.at',Rg.pv] at b0 b1 b2 ⊢;(repeat' split) <;> first | rfl | omega);have HS:=aj hs;clear hs;go_wp2;go_ret;exact ⟨by rw [HS.out];rfl,HB.out⟩}
theorem wF (w:World) (a b c:Value) (t:TypeId):∃ w1,w1=w.alloc (.cells #[a,b,c] t)∧Hid (aC w1 w.heap.size [a,b,c] t)∧Hid (Below w.heap.size w w1):=
 ⟨_,rfl,aC.new w [a,b,c] t,(Below.refl _ _).alloc aF _⟩
theorem DV {w:World} {b:Nat} {x y z:Value} {t:TypeId} (h:aC w b [x,y,z] t) (v0 v1 v2:Value):aC (((w.setCell ⟨b,0,none⟩ v0).setCell ⟨b,1,none⟩ v1).setCell ⟨b,2,none⟩ v2) b [v0,v1,v2] t:=((h.set 0 v0).set 1 v1).set 2 v2
theorem DW {w X:World} {b:Nat} (h:Below w.heap.size w X) (hb:w.heap.size≤b) (v0 v1 v2:Value):Below w.heap.size w (((X.setCell ⟨b,0,none⟩ v0).setCell ⟨b,1,none⟩ v1).setCell ⟨b,2,none⟩ v2):=((h.setCell hb _).setCell hb _).setCell hb _
theorem Qh {X:World} {b q:Nat} {A:List Value} {t:TypeId} (h:aC X q A t) (hb:q≠b) (v0 v1 v2:Value):aC (((X.setCell ⟨b,0,none⟩ v0).setCell ⟨b,1,none⟩ v1).setCell ⟨b,2,none⟩ v2) q A t:=((h.other hb 0 v0).other hb 1 v1).other hb 2 v2
theorem Qi {fn:Func} {tmps:Array Value} {Z:World} {b k:Nat} {v0 v1 v2:Value} (ht:tmps.getD k undef=.pointer (some ⟨b,0,none⟩)) (hZ:aC Z b [v0,v1,v2] 131) (hf:fn.results=#[.cell k 131]) :
  (results fn tmps).run prog Z=.ok (.agg #[v0,v1,v2]) Z:=by
 obtain ⟨h0,h1,h2⟩:=bO hZ;have ht':tmps[k]?.getD undef=.pointer (some ⟨b,0,none⟩):=by simpa using ht
 simp [results,hf,ht',go_sem,h0,h1,h2]
def fv (l:List Rg.T) (r:Nat×(Rg.T→Bool)×(Rg.T→Bool)):Value:=.agg #[.int .i64 r.1,.int .i64 (l.countP r.2.1:Nat),.int .i64 (l.countP r.2.2:Nat)]
theorem abM (p:Nat) (l:List Rg.T) (t:Rg.T) (w:World) (h:kr w p l) (ht:∀ c,c<3→-9223372036854775808≤Rg.at' t c) :
  Calls prog 78 #[.pointer (some ⟨p,0,none⟩),tv t] w fun e w'=>e=.returned (fv l (Rg.dN t))∧Below w.heap.size w w':=by
 have AH:=aj fun c hc W=>zC c hc W;have BG:=aj fun W=>abL t W;have HR:=aj h;have HT:=aj ht;have ST:=aj (Rg.start_lt t);clear h ht;unfold tv at *;go_enter func78,ntmps78;go_upto_region 1 with fail
 obtain ⟨w1,hw1,HX,HB,HD,hz⟩:=DR w t;rw [←hw1];clear hw1;obtain ⟨w2,hw2,HY,HB2⟩:=wF w1 (.int .i64 0) (.int .i64 0) (.int .i64 0) 131;rw [hz] at HY;rw [←hw2];have c0:=(ko (HX.out.keep HB2.out)).1;have c1:=(ko (HX.out.keep HB2.out)).2.1;have c2:=(ko (HX.out.keep HB2.out)).2.2;have hz2:w2.heap.size=w.heap.size+1+1:=by rw [hw2];simp [hz]
 clear hw2;go_upto_region 2 with (go_at_call 113;refine (BG.out _).mono ?_;rintro e w3 ⟨rfl,hb3⟩)
 have RL:=abK p l w3 (HR.out.keep (aJ (aJ HB.out HB2.out) hb3));have aT:=aj (aJ (aJ HB.out HB2.out) hb3);have Qj:=aj ((HX.out.keep HB2.out).keep hb3);have qA:=aj (HY.out.keep hb3);have oV:=hb3.size;have HL:=aj (show l.length≤100 from HR.out.2.2.1);clear HX HY HB HB2 HD hb3 BG c0 c1 c2;go_upto_region 3 with (go_at_call 37;refine RL.mono ?_;rintro e w4 ⟨rfl,rfl⟩)
 have hle:=aT.out.size;obtain ⟨w5,cK,HF5,aO⟩:=wF w4 (.int .i64 (Rg.start t:Nat)) (.int .i64 0) (.int .i64 l.length) 131;rw [←cK];have zD:=aj (Qj.out.keep aO.out);have Ho:=aj (qA.out.keep aO.out);have aU:=aj (aJ aT.out aO.out);clear cK Qj qA aT RL;go_wp2;go_loopw [13,5] (fun s13 s5 wr=>∃ (k c:Nat) (P Q:Rg.T→Bool),k≤3∧c<3∧s13=.int .i64 k∧s5=.int .i64 c∧Hid (Below w.heap.size w wr)∧Hid (aC wr w.heap.size (tl t) 77)∧Hid (aC wr (w.heap.size+1) [.int .i64 0,.int .i64 0,.int .i64 0] 131) ∧
   Hid (aC wr w4.heap.size [.int .i64 c,.int .i64 (l.countP P:Nat),.int .i64 (l.countP Q:Nat)] 131)∧Hid (Rg.way t (3-k) c P Q=Rg.dN t)∧Hid (Rg.Lower c P)∧Hid (Rg.Lower c Q)) (fun s13 s5 _=>3-(intOf s13).toNat)
 case atStart=>refine ⟨0,Rg.start t,(fun _=>false),(fun _=>true),ak,ST.out,rfl,rfl,aU.out,zD.out,Ho.out,?_,rfl,fun _ _ _ h=>h,fun _ _ _ h=>h⟩;have e1:l.countP (fun _=>false)=0:=aI;have e2:l.countP (fun _=>true)=l.length:=aI;rw [e1,e2];exact HF5.out
 case round=>
  obtain ⟨k,c,P,Q,hk,hc,rfl,rfl,HB,HX,HY,HF,HW,HP,HQ⟩:=hrel;have hcl:=HL.out;have q1:l.countP P≤l.length:=List.countP_le_length;have q2:l.countP Q≤l.length:=List.countP_le_length;by_cases hlt:k<3
  · have hpv:=Rg.nR c;have c0:=HX.out.cell (nU t (Rg.pv c) hpv);by_cases h0:Rg.at' t (Rg.pv c)=0;{rw [h0] at c0;have hw:Rg.dN t=(c,P,Q):=(by rw [←HW.out,show 3-k=(3-k-1)+1 by omega];unfold Rg.way;rw [if_pos h0]);have DX:=aj hw;obtain ⟨d0,d1,d2⟩:=bO HF.out;obtain ⟨r0,r1,r2⟩:=bO HY.out;obtain ⟨s0,s1,s2⟩:=eX HY.out;clear h0 hw;(go_wp2_with (go_at_call 114;refine (AH.out _ hc _).mono ?_;rintro e w' ⟨rfl,rfl⟩));have HZ:=aj (DV HY.out (.int .i64 c) (.int .i64 (l.countP P:Nat)) (.int .i64 (l.countP Q:Nat)));exact bodyPost_ret (v:=fv l (c,P,Q)) (Qi rfl HZ.out results78) rfl ⟨by rw [DX.out],DW HB.out ak _ _ _⟩}
    · have hv:=HT.out (Rg.pv c) hpv;obtain ⟨x,hx⟩:=aB (Rg.at' t (Rg.pv c));rw [←hx] at c0 h0 hv;obtain ⟨d0,d1,d2⟩:=bO HF.out;have r9:=HR.out.keep HB.out;have S1:=aj fun q:Later wr.heap.size wr=>DU p c l P x q.it (r9.keep q.low) hc HP.out hv;have S2:=aj fun q:Later wr.heap.size wr=>DU p c l Q x q.it (r9.keep q.low) hc HQ.out hv;have g0:=fun q:Later wr.heap.size wr=>q.keep c0;have g1:=fun q:Later wr.heap.size wr=>q.keep d0;have g2:=fun q:Later wr.heap.size wr=>q.keep d1;have g3:=fun q:Later wr.heap.size wr=>q.keep d2;have hnw:Rg.way t (3-(k+1)) (Rg.pv c) (Rg.h_ c x P) (Rg.h_ c x Q)=Rg.dN t:=by
       rw [←HW.out,show 3-k=(3-(k+1))+1 by omega];conv=>rhs;unfold Rg.way
       rw [←hx,if_neg h0]
      have HNW:=aj hnw;have ni:=aj (Rg.Di hc x HP.out);have HQ2:=aj (Rg.Di hc x HQ.out);obtain ⟨n1,hn1⟩:=aB (l.countP (Rg.h_ c x P));obtain ⟨n2,hn2⟩:=aB (l.countP (Rg.h_ c x Q));rw [←hn1] at S1;rw [←hn2] at S2;have lV:=aj hn1;have lW:=aj hn2;clear hx r9 hnw hn1 hn2 HW;(go_upto_region 6 with (go_at_call 114;refine (AH.out _ hc _).mono ?_;rintro e w' ⟨rfl,dS⟩;have hw2:=dS.symm;subst hw2));refine Mg 21 wr.heap.size aG aG ?_;simp only [List.take_succ_cons,List.take_zero,List.drop_succ_cons,List.drop_zero];(repeat (go_big_quiet_step (first | (go_at_call 114;with_reducible exact Later.Xg (AH.out _ hc _)) | (go_at_call 115;with_reducible exact Later.call aF (S1.out _)) | (go_at_call 115;with_reducible exact Later.call aF (S2.out _)))));refine wpQuiet_nil ?_;rintro wq ⟨q,hq⟩;have hlow:Below wr.heap.size wr wq:=(by rw [hq];exact q.low);have Hq:=aj (HF.out.keep hlow);have Qk:=aj (HX.out.keep hlow);have HYq:=aj (HY.out.keep hlow);have gY:=aj (aJ HB.out hlow);obtain ⟨k0,k1,k2⟩:=bO Hq.out;obtain ⟨s0,s1,s2⟩:=eX Hq.out;have aiS:=Qk.out.lt;clear g0 g1 g2 g3 d0 d1 d2 c0 S1 S2 hq q hlow;(go_upto_region 7 with fail);(go_wp2_with (go_at_call 114;refine (AH.out _ hc _).mono ?_;rintro e w' ⟨rfl,rfl⟩));go_roundw
      (case rel=>refine ⟨k+1,Rg.pv c,Rg.h_ c x P,Rg.h_ c x Q,ak,hpv,aN,rfl,aj (DW gY.out ak _ _ _),aj (Qh Qk.out ak _ _ _),aj (Qh HYq.out ak _ _ _),aj ?_,HNW,ni,HQ2⟩;rw [←lV.out,←lW.out];exact DV Hq.out _ _ _);case measure=>simp [intOf];omega
  {obtain rfl:k=3:=ak;have hw:Rg.dN t=(c,P,Q):=(by rw [←HW.out];rfl);have DX:=aj hw;obtain ⟨d0,d1,d2⟩:=bO HF.out;obtain ⟨r0,r1,r2⟩:=bO HY.out;obtain ⟨s0,s1,s2⟩:=eX HY.out;clear hw;go_wp2;have HZ:=aj (DV HY.out (.int .i64 c) (.int .i64 (l.countP P:Nat)) (.int .i64 (l.countP Q:Nat)));exact bodyPost_ret (v:=fv l (c,P,Q)) (Qi rfl HZ.out results78) rfl ⟨by rw [DX.out],DW HB.out ak _ _ _⟩}
def Hr (t:Rg.T) (d:Nat) (v:Int):Rg.T:=if d=0 then (v,t.2.1,t.2.2) else if d=1 then (t.1,v,t.2.2) else (t.1,t.2.1,v)
theorem abN (t:Rg.T) (d:Nat) (v:Int) (h:d<3):(tl t).set d (.int .i64 v)=tl (Hr t d v):=by rcases Rg.c3 h with rfl | rfl | rfl <;> rfl
theorem at_set (t:Rg.T) (d e:Nat) (v:Int) (h:d<3) (k:e<3):Rg.at' (Hr t d v) e=if e=d then v else Rg.at' t e:=by rcases Rg.c3 h with rfl | rfl | rfl <;> rcases Rg.c3 k with rfl | rfl | rfl <;> rfl
theorem abO {a b:Rg.T} (h:∀ d,d<3→Rg.at' a d=Rg.at' b d):a=b:=Rg.ext (h 0 ak) (h 1 ak) (h 2 ak)
def eG (c k:Nat):Nat:=(c+2*k) % 3
theorem Ht (c k:Nat):eG c k<3:=Nat.mod_lt _ aL
theorem Ql (c:Nat) (h:c<3):eG c 0=c:=by unfold eG;omega
theorem Qm (c k:Nat):Rg.pv (eG c k)=eG c (k+1):=by unfold eG Rg.pv;omega
theorem abP {l:List Rg.T} {c i:Nat} {t:Rg.T} (h:(Rg.O l c)[i]?=some t) (ht:Rg.Ok t):(((Rg.A l c).getD i 0:Nat):Int)=Rg.at' t (Rg.pv c):=by unfold Rg.A;rw [List.getD,List.getElem?_map,h];have:=ht (Rg.pv c) (Rg.nR c);simp;omega
theorem abQ (w:World):∃ w1,w1=(w.alloc (.cells #[.int .i64 0,.int .i64 0,.int .i64 0] 77)).alloc (.cells #[.int .i64 0,.int .i64 0,.int .i64 0] 77)∧Hid (aC w1 w.heap.size (tl (0,0,0)) 77)∧Hid (aC w1 (w.heap.size+1) (tl (0,0,0)) 77)∧Hid (Below w.heap.size w w1):=
 ⟨_,rfl,(aC.new w (tl (0,0,0)) 77).alloc _,aC.new' aI rfl,((Below.refl _ _).alloc aF _).alloc aI _⟩
theorem abR (p c i:Nat) (l:List Rg.T) (t:Rg.T) (w:World) (h:kr w p l) (hc:c<3) (hi:(Rg.O l c)[i]?=some t) :
  Calls prog 79 #[.pointer (some ⟨p,0,none⟩),.int .i64 c,.int .i64 i] w fun e w'=>e=.returned (tv t)∧Below w.heap.size w w':=by
 have hil:i<l.length:=by have:=(List.getElem?_eq_some_iff.1 hi).1;rwa [Rg.lQ] at this
 obtain ⟨hidx,hmem⟩:=Rg.aaA hc h.nodup hil hi;have HR:=aj h;have HM:=aj hmem;have qB:=aj h.nodup;have jg:=aj (h.2.1 t hmem);have HL:=aj (show l.length≤100 from h.2.2.1);have AH:=aj fun c hc W=>zC c hc W;have HI:=aj hidx;clear h hmem hi hidx;go_enter func79,ntmps79;go_upto_region 2 with fail
 obtain ⟨w1,hw1,HX,HY,HB⟩:=abQ w;rw [show (w.alloc (.cells #[.int .i64 0,.int .i64 0,.int .i64 0] 77)).alloc (.cells #[.int .i64 0,.int .i64 0,.int .i64 0] 77)=w1 from hw1.symm];clear hw1;go_wp2;go_loopw [9,1,2] (fun s9 s1 s2 wr=>∃ (k:Nat) (tc:Rg.T),k≤3∧s9=.int .i64 k∧s1=.int .i64 (eG c k:Nat)∧s2=.int .i64 (l.countP (fun s=>decide (Rg.g_ (eG c k) s t)):Nat)∧Hid (Below w.heap.size w wr)∧Hid (aC wr w.heap.size (tl (0,0,0)) 77)∧Hid (aC wr (w.heap.size+1) (tl tc) 77)∧Hid (∀ j,1≤j→j≤k→Rg.at' tc (eG c j)=Rg.at' t (eG c j))) (fun s9 _ _ _=>3-(intOf s9).toNat)
 case atStart=>refine ⟨0,(0,0,0),ak,rfl,by rw [Ql c hc],?_,HB.out,HX.out,HY.out,fun j h1 h2=>ak⟩;rw [Ql c hc,HI.out]
 case round=>
  obtain ⟨k,tc,hk,rfl,rfl,rfl,HB,HX,HY,HD⟩:=hrel;have hcl:=HL.out;have hck:=Ht c k;obtain ⟨q1,q2⟩:=Rg.aaz hck qB.out HM.out;by_cases hlt:k<3
  · have r9:=HR.out.keep HB.out;obtain ⟨_,_,_,pw,h4⟩:=r9;obtain ⟨c0,hwv⟩:=h4 _ hck;have ha:=abP q2 jg.out;have hst:=DU p (eG c k) l (fun s=>decide (Rg.g_ (eG c k) s t)) (Rg.at' t (Rg.pv (eG c k))) wr;have hP:Rg.h_ (eG c k) (Rg.at' t (Rg.pv (eG c k))) (fun s=>decide (Rg.g_ (eG c k) s t))=fun s=>decide (Rg.g_ (Rg.pv (eG c k)) s t):=funext fun s=>Rg.aaC hck s t;have hv:=jg.out (Rg.pv (eG c k)) (Rg.nR _);have WA:=abb (pw (eG c k)) 10 (l.countP (fun s=>decide (Rg.g_ (eG c k) s t))) (Rg.A l (eG c k)) wr hwv (by rw [Rg.wB];exact q1);rw [ha] at WA;have ST:=aj fun W (hb:Below wr.heap.size wr W)=>DU p (eG c k) l (fun s=>decide (Rg.g_ (eG c k) s t)) (Rg.at' t (Rg.pv (eG c k))) W ((HR.out.keep HB.out).keep hb) hck (Rg.aaB t) ak;rw [hP] at ST;have hd:=Ht c (k+1);rw [Qm] at WA ST hv;obtain ⟨x,hx⟩:=aB (Rg.at' t (eG c (k+1)));rw [←hx] at WA ST hv;have Hu:=aj hx;clear hst hP q2 ha hwv h4 hx;have Qn:=aj fun W=>AH.out (eG c k) hck W;rw [Qm] at Qn;have ST0:=ST.out wr (Below.refl _ _);generalize hi0:l.countP (fun s=>decide (Rg.g_ (eG c k) s t))=i0 at *;generalize hi1:l.countP (fun s=>decide (Rg.g_ (eG c (k+1)) s t))=i1 at *;have HI1:=aj hi1;clear hi0 hi1 ST0;(go_upto_region 5 with (go_at_call 116;refine WA.mono ?_;rintro e w2 ⟨rfl,hb2⟩));have ST2:=ST.out w2 hb2;have HB2:=aj hb2;clear ST WA;(go_upto_region 6 with (go_at_call 115;refine ST2.mono ?_;rintro e w3 ⟨rfl,hb3⟩));have kZ:=aj (HY.out.keep (aJ HB2.out hb3));have HX3:=aj (HX.out.keep (aJ HB2.out hb3));have HB3:=aj (aJ HB.out (aJ HB2.out hb3));have c1:=kZ.out.cell (nU tc _ hd);have f1:=kZ.out.free (eG c (k+1));clear ST2 hb3 HY HX HB HB2 hb2 c0;generalize hdd:eG c (k+1)=d at *;have nk:=aj hdd;clear hdd;(go_wp2_with (go_at_call 114;refine (Qn.out _).mono ?_;rintro e w' ⟨rfl,dS⟩;have hw2:=dS.symm;subst hw2));go_roundw
    (case rel=>refine ⟨k+1,Hr tc d x,ak,aN,by rw [nk.out],by rw [nk.out,HI1.out],HB3.out.setCell (by show w.heap.size≤w.heap.size+1;omega) _,HX3.out.other ak _ _,?_,?_⟩;{rw [←abN _ _ _ hd];exact kZ.out.set d _};{intro j h1 h2;have hj:=Ht c j;rw [at_set _ _ _ _ hd hj];split;{rename_i e;rw [e];exact Hu.out};{rename_i e;refine HD.out j h1 ?_;have:j≠k+1:=(by intro e';apply e;rw [e'];exact nk.out);omega}});case measure=>simp [intOf];omega
  {obtain rfl:k=3:=ak;have hte:tc=t:=abO fun d hd=>(by obtain ⟨j,h1,h2,h3⟩:∃ j,1≤j∧j≤3∧eG c j=d:=(by rcases Rg.c3 hc with rfl | rfl | rfl <;> rcases Rg.c3 hd with rfl | rfl | rfl;{exact ⟨3,ak,ak,rfl⟩};{exact ⟨2,ak,ak,rfl⟩};{exact ⟨1,ak,ak,rfl⟩};{exact ⟨1,ak,ak,rfl⟩};{exact ⟨3,ak,ak,rfl⟩};{exact ⟨2,ak,ak,rfl⟩};{exact ⟨2,ak,ak,rfl⟩};{exact ⟨1,ak,ak,rfl⟩};{exact ⟨3,ak,ak,rfl⟩});rw [←h3];exact HD.out j h1 h2);subst hte;have d0:=(ko HY.out).1;have d1:=(ko HY.out).2.1;have d2:=(ko HY.out).2.2;obtain ⟨r0,r1,r2⟩:=bO HX.out;obtain ⟨s0,s1,s2⟩:=eX HX.out;clear q1 q2;go_wp2;have HZ:=aj (DV HX.out (.int .i64 tc.1) (.int .i64 tc.2.1) (.int .i64 tc.2.2));exact bodyPost_ret (v:=tv tc) (Qe rfl HZ.out results79) rfl ⟨rfl,DW HB.out ak _ _ _⟩}
theorem abS (t:Rg.T) (c:Nat) (hc:c<3) (w:World):(Instr.index 77 (.agg #[.int .i64 t.1,.int .i64 t.2.1,.int .i64 t.2.2]) (.int .i64 c)).run prog w=.ok (.int .i64 (Rg.at' t c)) w:=by rcases Rg.c3 hc with rfl | rfl | rfl <;> simp [Instr.index,run_underlying underlying77,asIntOf,go_sem,Rg.at',sizeOf3,isAgg3]
end Go.Proofs.YtjaebndajhppgaaGreatDoor
namespace Go.Proofs
open Go.Shelf
def Tryz.sortIDs_ren:Go.Shelf.Ren:=⟨fun | 6=>80 | 15=>118 | 14=>117 | 28=>167 | 29=>168 | 20=>159 | 21=>160 | 22=>161 | 23=>162 | 24=>163 | 25=>164 | 26=>165 | 27=>166 | 46=>198 | 47=>199 | 48=>200 | 49=>201 | 50=>202 | 57=>229 | n=>n,fun | 22=>79 | 24=>77 | 25=>135 | 3=>3 | 39=>57 | 0=>0 | 53=>230 | 55=>232 | 4=>4 | 46=>224 | 45=>223 | 50=>123 | 5=>5 | 9=>9 | 66=>261 | 70=>265 | 76=>278 | 77=>256 | n=>n,fun | n=>n⟩
theorem Tryz.sortIDs:Go.Proofs.SlLaysF0.n6 prog Tryz.sortIDs_ren:={
 mixed:=by kernel_rfl
 f6:=⟨Tryz.f80.name,by decide,func80.trans (congrArg some (by kernel_rfl))⟩
 f14:=⟨Tryz.f117.name,by decide,func117.trans (congrArg some (by kernel_rfl))⟩
 f15:=func118.trans (congrArg some (by kernel_rfl))
 f20:=⟨Tryz.f159.name,by decide,func159.trans (congrArg some (by kernel_rfl))⟩
 f21:=⟨Tryz.f160.name,by decide,func160.trans (congrArg some (by kernel_rfl))⟩
 f22:=⟨Tryz.f161.name,by decide,func161.trans (congrArg some (by kernel_rfl))⟩
 f23:=⟨Tryz.f162.name,by decide,func162.trans (congrArg some (by kernel_rfl))⟩
 f24:=⟨Tryz.f163.name,by decide,func163.trans (congrArg some (by kernel_rfl))⟩
 f25:=⟨Tryz.f164.name,by decide,func164.trans (congrArg some (by kernel_rfl))⟩
 f26:=⟨Tryz.f165.name,by decide,func165.trans (congrArg some (by kernel_rfl))⟩
 f27:=⟨Tryz.f166.name,by decide,func166.trans (congrArg some (by kernel_rfl))⟩
 f28:=func167.trans (congrArg some (by kernel_rfl))
 f29:=func168.trans (congrArg some (by kernel_rfl))
 f46:=⟨Tryz.f198.name,by decide,func198.trans (congrArg some (by kernel_rfl))⟩
 f47:=func199.trans (congrArg some (by kernel_rfl))
 f48:=func200.trans (congrArg some (by kernel_rfl))
 f49:=⟨Tryz.f201.name,by decide,func201.trans (congrArg some (by kernel_rfl))⟩
 f50:=⟨Tryz.f202.name,by decide,func202.trans (congrArg some (by kernel_rfl))⟩
 f57:=⟨Tryz.f229.name,by decide,func229.trans (congrArg some (by kernel_rfl))⟩
 t0:=underlying0
 a0:=isAgg0
 z0:=sizeOf0
 v0:=zeroValue0
 t3:=underlying3
 a3:=isAgg3
 z3:=sizeOf3
 v3:=zeroValue3
 t4:=underlying4
 a4:=isAgg4
 z4:=sizeOf4
 v4:=zeroValue4
 t5:=underlying5
 a5:=isAgg5
 z5:=sizeOf5
 v5:=zeroValue5
 t9:=underlying9
 a9:=isAgg9
 z9:=sizeOf9
 v9:=zeroValue9
 t22:=underlying79
 a22:=isAgg79
 z22:=sizeOf79
 v22:=zeroValue79
 t25:=underlying135
 a25:=isAgg135
 z25:=sizeOf135
 v25:=zeroValue135
 t39:=underlying57
 a39:=isAgg57
 z39:=sizeOf57
 v39:=zeroValue57
 t45:=underlying223
 a45:=isAgg223
 z45:=sizeOf223
 v45:=zeroValue223
 t46:=underlying224
 a46:=isAgg224
 z46:=sizeOf224
 v46:=zeroValue224
 t50:=underlying123
 a50:=isAgg123
 z50:=sizeOf123
 v50:=zeroValue123
 t53:=underlying230
 a53:=isAgg230
 z53:=sizeOf230
 v53:=zeroValue230
 t55:=underlying232
 a55:=isAgg232
 z55:=sizeOf232
 v55:=zeroValue232
 t66:=underlying261
 a66:=isAgg261
 z66:=sizeOf261
 v66:=zeroValue261
 t70:=underlying265
 a70:=isAgg265
 z70:=sizeOf265
 v70:=zeroValue265
 t76:=underlying278
 a76:=isAgg278
 z76:=sizeOf278
 v76:=zeroValue278
 t77:=underlying256
 a77:=isAgg256
 z77:=sizeOf256
 v77:=zeroValue256 }
def Tryz.sortTerms_ren:Go.Shelf.Ren:=⟨fun | 6=>127 | 15=>118 | 14=>176 | 28=>167 | 29=>168 | 20=>215 | 21=>216 | 22=>217 | 23=>218 | 24=>219 | 25=>220 | 26=>221 | 27=>222 | 46=>244 | 47=>199 | 48=>200 | 49=>245 | 50=>246 | 57=>259 | n=>n,fun | 22=>62 | 24=>61 | 25=>64 | 3=>3 | 39=>57 | 0=>0 | 53=>230 | 55=>232 | 4=>4 | 46=>224 | 45=>223 | 50=>123 | 5=>5 | 9=>9 | 66=>261 | 70=>265 | 76=>278 | 77=>256 | n=>n,fun | n=>n⟩
theorem Tryz.sortTerms:Go.Proofs.SlLaysF0.n6 prog Tryz.sortTerms_ren:={
 mixed:=by kernel_rfl
 f6:=⟨Tryz.f127.name,by decide,func127.trans (congrArg some (by kernel_rfl))⟩
 f14:=⟨Tryz.f176.name,by decide,func176.trans (congrArg some (by kernel_rfl))⟩
 f15:=func118.trans (congrArg some (by kernel_rfl))
 f20:=⟨Tryz.f215.name,by decide,func215.trans (congrArg some (by kernel_rfl))⟩
 f21:=⟨Tryz.f216.name,by decide,func216.trans (congrArg some (by kernel_rfl))⟩
 f22:=⟨Tryz.f217.name,by decide,func217.trans (congrArg some (by kernel_rfl))⟩
 f23:=⟨Tryz.f218.name,by decide,func218.trans (congrArg some (by kernel_rfl))⟩
 f24:=⟨Tryz.f219.name,by decide,func219.trans (congrArg some (by kernel_rfl))⟩
 f25:=⟨Tryz.f220.name,by decide,func220.trans (congrArg some (by kernel_rfl))⟩
 f26:=⟨Tryz.f221.name,by decide,func221.trans (congrArg some (by kernel_rfl))⟩
 f27:=⟨Tryz.f222.name,by decide,func222.trans (congrArg some (by kernel_rfl))⟩
 f28:=func167.trans (congrArg some (by kernel_rfl))
 f29:=func168.trans (congrArg some (by kernel_rfl))
 f46:=⟨Tryz.f244.name,by decide,func244.trans (congrArg some (by kernel_rfl))⟩
 f47:=func199.trans (congrArg some (by kernel_rfl))
 f48:=func200.trans (congrArg some (by kernel_rfl))
 f49:=⟨Tryz.f245.name,by decide,func245.trans (congrArg some (by kernel_rfl))⟩
 f50:=⟨Tryz.f246.name,by decide,func246.trans (congrArg some (by kernel_rfl))⟩
 f57:=⟨Tryz.f259.name,by decide,func259.trans (congrArg some (by kernel_rfl))⟩
 t0:=underlying0
 a0:=isAgg0
 z0:=sizeOf0
 v0:=zeroValue0
 t3:=underlying3
 a3:=isAgg3
 z3:=sizeOf3
 v3:=zeroValue3
 t4:=underlying4
 a4:=isAgg4
 z4:=sizeOf4
 v4:=zeroValue4
 t5:=underlying5
 a5:=isAgg5
 z5:=sizeOf5
 v5:=zeroValue5
 t9:=underlying9
 a9:=isAgg9
 z9:=sizeOf9
 v9:=zeroValue9
 t22:=underlying62
 a22:=isAgg62
 z22:=sizeOf62
 v22:=zeroValue62
 t25:=underlying64
 a25:=isAgg64
 z25:=sizeOf64
 v25:=zeroValue64
 t39:=underlying57
 a39:=isAgg57
 z39:=sizeOf57
 v39:=zeroValue57
 t45:=underlying223
 a45:=isAgg223
 z45:=sizeOf223
 v45:=zeroValue223
 t46:=underlying224
 a46:=isAgg224
 z46:=sizeOf224
 v46:=zeroValue224
 t50:=underlying123
 a50:=isAgg123
 z50:=sizeOf123
 v50:=zeroValue123
 t53:=underlying230
 a53:=isAgg230
 z53:=sizeOf230
 v53:=zeroValue230
 t55:=underlying232
 a55:=isAgg232
 z55:=sizeOf232
 v55:=zeroValue232
 t66:=underlying261
 a66:=isAgg261
 z66:=sizeOf261
 v66:=zeroValue261
 t70:=underlying265
 a70:=isAgg265
 z70:=sizeOf265
 v70:=zeroValue265
 t76:=underlying278
 a76:=isAgg278
 z76:=sizeOf278
 v76:=zeroValue278
 t77:=underlying256
 a77:=isAgg256
 z77:=sizeOf256
 v77:=zeroValue256 }
def Tryz.cloneIDs_ren:Go.Shelf.Ren:=⟨fun | 41=>180 | n=>n,fun | 22=>79 | 23=>77 | 4=>4 | n=>n,fun | n=>n⟩
theorem Tryz.cloneIDs:Go.Proofs.SlLaysE0.n41 prog Tryz.cloneIDs_ren:={
 mixed:=by kernel_rfl
 f41:=⟨Tryz.f180.name,by decide,func180.trans (congrArg some (by kernel_rfl))⟩
 t4:=underlying4
 a4:=isAgg4
 z4:=sizeOf4
 v4:=zeroValue4
 t22:=underlying79
 a22:=isAgg79
 z22:=sizeOf79
 v22:=zeroValue79 }
def Tryz.cloneTerms_ren:Go.Shelf.Ren:=⟨fun | 41=>72 | n=>n,fun | 22=>62 | 23=>61 | 4=>4 | n=>n,fun | n=>n⟩
theorem Tryz.cloneTerms:Go.Proofs.SlLaysE0.n41 prog Tryz.cloneTerms_ren:={
 mixed:=by kernel_rfl
 f41:=⟨Tryz.f72.name,by decide,func72.trans (congrArg some (by kernel_rfl))⟩
 t4:=underlying4
 a4:=isAgg4
 z4:=sizeOf4
 v4:=zeroValue4
 t22:=underlying62
 a22:=isAgg62
 z22:=sizeOf62
 v22:=zeroValue62 }
def Tryz.cloneTris_ren:Go.Shelf.Ren:=⟨fun | 41=>76 | n=>n,fun | 22=>39 | 23=>67 | 4=>4 | n=>n,fun | n=>n⟩
theorem Tryz.cloneTris:Go.Proofs.SlLaysE0.n41 prog Tryz.cloneTris_ren:={
 mixed:=by kernel_rfl
 f41:=⟨Tryz.f76.name,by decide,func76.trans (congrArg some (by kernel_rfl))⟩
 t4:=underlying4
 a4:=isAgg4
 z4:=sizeOf4
 v4:=zeroValue4
 t22:=underlying39
 a22:=isAgg39
 z22:=sizeOf39
 v22:=zeroValue39 }
def Tryz.insShown_ren:Go.Shelf.Ren:=⟨fun | 20=>187 | n=>n,fun | 24=>158 | 22=>155 | 3=>3 | 25=>161 | 4=>4 | 0=>0 | n=>n,fun | n=>n⟩
theorem Tryz.insShown:Go.Proofs.SlLaysF0.n20 prog Tryz.insShown_ren:={
 mixed:=by kernel_rfl
 f20:=⟨Tryz.f187.name,by decide,func187.trans (congrArg some (by kernel_rfl))⟩
 t0:=underlying0
 a0:=isAgg0
 z0:=sizeOf0
 v0:=zeroValue0
 t3:=underlying3
 a3:=isAgg3
 z3:=sizeOf3
 v3:=zeroValue3
 t4:=underlying4
 a4:=isAgg4
 z4:=sizeOf4
 v4:=zeroValue4
 t22:=underlying155
 a22:=isAgg155
 z22:=sizeOf155
 v22:=zeroValue155
 t25:=underlying161
 a25:=isAgg161
 z25:=sizeOf161
 v25:=zeroValue161 }
end Go.Proofs
