/-GRg4-/
import Derived.Test.YtockbaekcbeenaaGreatDoorMkHd1
import Derived.Test.YtockbaekcbeenaaGreatDoorMkGRg1
import Derived.Test.YtockbaekcbeenaaGreatDoorMkGB
import Derived.Shelf.Abstract
import Derived.Deep.DeepCutAuto
import Derived.Sort.Grow
import Derived.Test.YtockbaekcbeenaaGreatDoorMkGRg3
import Derived.Laws.StructEq
set_option linter.unusedVariables false
set_option linter.unusedSimpArgs false
set_option maxRecDepth 100000
set_option maxHeartbeats 1000000
namespace Go.Proofs.YtockbaekcbeenaaGreatDoor.Rg
theorem abe {l:List T} (hn:l.Nodup) (p:T) (i:Nat) (h:i<l.countP (dJ p).2.2-l.countP (dJ p).2.1):(O l (dJ p).1)[l.countP (dJ p).2.1+i]?=((O l (dJ p).1).filter (mt p))[i]?:=by rw [←XD hn p,List.getElem?_drop,List.getElem?_take_of_lt ay]
theorem qz {l:List T} (p:T):((O l (dJ p).1).filter (mt p)).length=l.countP (dJ p).2.2-l.countP (dJ p).2.1:=by rw [←List.countP_eq_length_filter,(jP l _).countP_eq];have:=count_eq l p;omega
end Go.Proofs.YtockbaekcbeenaaGreatDoor.Rg
namespace Go.Proofs.YtockbaekcbeenaaGreatDoor
open Go.Proofs.Tryz
open Go.ChangeShapes Go.WideShapes Go.ChangeAt Go.RowKit
def tl (t:Rg.T):List Value:=[.int .i64 t.1,.int .i64 t.2.1,.int .i64 t.2.2]
def tv (t:Rg.T):Value:=.agg #[.int .i64 t.1,.int .i64 t.2.1,.int .i64 t.2.2]
theorem pI (t:Rg.T) (i:Nat) (h:i<3):(tl t)[i]?=some (.int .i64 (Rg.at' t i)):=by
 match i,h with
 | 0,_=>rfl
 | 1,_=>rfl
 | 2,_=>rfl
theorem abf (c:Nat) (hc:c<3) (w:World):Calls prog 186 #[.int .i64 c] w fun e w'=>e=.returned (.int .i64 (Rg.nx c:Nat))∧w'=w:=by go_enter func186,ntmps186;go_wp2;go_ret;rcases Rg.c3 hc with rfl | rfl | rfl <;> exact ⟨rfl,rfl⟩
theorem AV (c:Nat) (hc:c<3) (w:World):Calls prog 144 #[.int .i64 c] w fun e w'=>e=.returned (.int .i64 (Rg.pv c:Nat))∧w'=w:=by go_enter func144,ntmps144;go_wp2;go_ret;rcases Rg.c3 hc with rfl | rfl | rfl <;> exact ⟨rfl,rfl⟩
theorem abg (x:Int) (w:World):Calls prog 213 #[.int .i64 x] w fun e w'=>e=.returned (.bool false)∧w'=w:=by go_enter func213,ntmps213;go_wp2;go_ret;exact ⟨aH,rfl⟩
def ci (x y:Int):Int:=if x<y then -1 else if y<x then 1 else 0
theorem abh (x y:Int) (w:World):Calls prog 179 #[.int .i64 x,.int .i64 y] w fun e w'=>e=.returned (.int .i64 (ci x y))∧w'=w:=by
 go_enter func179,ntmps179;go_wp2_with (go_at_call 213;refine (abg _ _).mono ?_;rintro e w' ⟨rfl,rfl⟩)
 all_goals (go_ret;refine ⟨?_,rfl⟩;unfold ci;(repeat' split) <;> first | rfl | (exfalso;omega))
theorem abj (x y:Rg.T) (b1 b2:Nat) (t1 t2:TypeId) (w:World) (h1:aB w b1 (tl x) t1) (h2:aB w b2 (tl y) t2) :
  Calls prog 135 #[.slice (some ⟨b1,0,none⟩) 3 3,.slice (some ⟨b2,0,none⟩) 3 3] w fun e w'=>e=.returned (.int .i64 (Rg.cmp x y))∧w'=w:=by
 have H1:=aj fun i (h:i<3)=>h1.cell (pI x i h);have H2:=aj fun i (h:i<3)=>h2.cell (pI y i h);clear h1 h2;go_enter func135,ntmps135;go_wp2;go_loopw [11] (fun s11 wr=>∃ i:Nat,i≤3∧s11=.int .i64 i∧wr=w∧Hid (∀ j,j<i→Rg.at' x j=Rg.at' y j)) (fun s11 _=>3-(intOf s11).toNat)
 case atStart=>exact ⟨0,ay,rfl,rfl,fun j hj=>absurd hj (Nat.not_lt_zero _)⟩
 case round=>
  obtain ⟨i,hi,rfl,eD,HE⟩:=hrel;subst eD;by_cases hlt:i<3
  · have c1:=H1.out i hlt;have c2:=H2.out i hlt;have IC:=abh (Rg.at' x i) (Rg.at' y i) wr;by_cases hc:ci (Rg.at' x i) (Rg.at' y i)=0
    · rw [hc] at IC;have HC:=aj hc;clear hc;(go_wp2_with (go_at_call 179;refine IC.mono ?_;rintro e w' ⟨rfl,rfl⟩));go_roundw
      (case rel=>refine ⟨i+1,ay,aN,trivial,fun j hj=>?_⟩;by_cases hji:j<i;{exact HE.out j hji};{obtain rfl:j=i:=ay;have:=HC.out;unfold ci at this;split at this;{omega};{split at this <;> omega}});case measure=>simp [intOf];omega
    {have hr:ci (Rg.at' x i) (Rg.at' y i)=Rg.cmp x y:=(by have he:=HE.out;unfold ci at hc ⊢;unfold Rg.cmp;have e0:=he 0;have e1:=he 1;obtain ⟨x0,x1,x2⟩:=x;obtain ⟨y0,y1,y2⟩:=y;rcases Rg.c3 hlt with rfl | rfl | rfl <;> simp [Rg.at'] at * <;> (repeat' split) <;> first | rfl | omega | (exfalso;omega));have HR:=aj hr;clear hr;generalize ci (Rg.at' x i) (Rg.at' y i)=r at *;(go_wp2_with (go_at_call 179;refine IC.mono ?_;rintro e w' ⟨rfl,rfl⟩));go_ret;exact ⟨by rw [HR.out];rfl,rfl⟩}
  {obtain rfl:i=3:=ay;have hr:Rg.cmp x y=0:=(by have he:=HE.out;have e0:=he 0 ay;have e1:=he 1 ay;have e2:=he 2 ay;simp only [Rg.at'] at e0 e1 e2;unfold Rg.cmp;simp at e0 e1 e2;simp [e0,e1,e2]);have HR:=aj hr;clear hr;go_wp2;go_ret;exact ⟨by rw [HR.out];rfl,rfl⟩}
def Dr (w w':World):Prop:=∃ q,w'.drawn=w.drawn+q
theorem Dr.refl (w:World):Dr w w:=⟨0,rfl⟩
theorem Dr.trans {a b c:World} (h:Dr a b) (k:Dr b c):Dr a c:=by obtain ⟨p,hp⟩:=h;obtain ⟨q,hq⟩:=k;exact ⟨p+q,by rw [hq,hp,Nat.add_assoc]⟩
theorem Dr.alloc {a b:World} (h:Dr a b) (o:Obj):Dr a (b.alloc o):=h
theorem Dr.drewN {a b:World} (h:Dr a b) (n:Nat):Dr a (b.drewN n):=by obtain ⟨p,hp⟩:=h;exact ⟨p+n,by show b.drawn+n=_;rw [hp,Nat.add_assoc]⟩
theorem Dr.setCell {a b:World} (h:Dr a b) (x:Addr) (v:Value):Dr a (b.setCell x v):=by obtain ⟨p,hp⟩:=h;exact ⟨p,by rw [←hp];rfl⟩
theorem Qy {fn:Func} {tmps:Array Value} {Z:World} {b k:Nat} {v0 v1 v2:Value} (ht:tmps.getD k undef=.pointer (some ⟨b,0,none⟩)) (hZ:aB Z b [v0,v1,v2] 68) (hf:fn.results=#[.cell k 68]) :
  (results fn tmps).run prog Z=.ok (.agg #[v0,v1,v2]) Z:=by
 obtain ⟨h0,h1,h2⟩:=bO hZ;have ht':tmps[k]?.getD undef=.pointer (some ⟨b,0,none⟩):=by simpa using ht
 simp [results,hf,ht',go_sem,h0,h1,h2]
theorem EO (w:World) (t:Rg.T):∃ w1,w1=w.alloc (.cells #[.int .i64 t.1,.int .i64 t.2.1,.int .i64 t.2.2] 68)∧Hid (aB w1 w.heap.size (tl t) 68)∧Hid (Below w.heap.size w w1)∧Hid (Dr w w1)∧w1.heap.size=w.heap.size+1:=
 ⟨_,rfl,aB.new w (tl t) 68,(Below.refl _ _).alloc aG _,Dr.alloc (Dr.refl _) _,aH⟩
theorem lQ {w:World} {b:Nat} {t:Rg.T} (h:aB w b (tl t) 68):w.cell? ⟨b,0,none⟩=some (.int .i64 t.1)∧w.cell? ⟨b,1,none⟩=some (.int .i64 t.2.1)∧w.cell? ⟨b,2,none⟩=some (.int .i64 t.2.2):=
 ⟨h.cell rfl,h.cell rfl,h.cell rfl⟩
theorem Jw (w:World) (x y:Rg.T):∃ w1,w1=(w.alloc (.cells #[.int .i64 x.1,.int .i64 x.2.1,.int .i64 x.2.2] 68)).alloc (.cells #[.int .i64 y.1,.int .i64 y.2.1,.int .i64 y.2.2] 68)∧Hid (aB w1 w.heap.size (tl x) 68)∧Hid (aB w1 (w.heap.size+1) (tl y) 68)∧Hid (Below w.heap.size w w1)∧Hid (Dr w w1):=by refine ⟨_,rfl,(aB.new w (tl x) 68).alloc _,aB.new' aH rfl,((Below.refl _ _).alloc aG _).alloc aH _,Dr.alloc (Dr.alloc (Dr.refl _) _) _⟩
theorem Jy (x y:Rg.T) (w:World):Calls prog 110 #[tv x,tv y] w fun e w'=>e=.returned (.int .i64 (Rg.cmp x y))∧Below w.heap.size w w'∧Dr w w':=by
 unfold tv;go_enter func110,ntmps110;go_upto_region 1 with fail
 obtain ⟨w1,hw1,HX,HY,HB,HD⟩:=Jw w x y;rw [←hw1];clear hw1;have SC:=aj fun q=>abj x y w.heap.size (w.heap.size+1) 68 68 (w1.drewN q) (HX.out.drewN q) (HY.out.drewN q);go_quiet ((go_at_call 135;exact nX fun W hW=>by rw [hW];exact SC.out _))
 go_wp2;go_ret;exact ⟨rfl,bV HB.out _,HD.out.drewN _⟩
theorem Qz (t:Rg.T) (c:Nat) (hc:c<3) (w:World):Calls prog 143 #[tv t,.int .i64 c] w fun e w'=>e=.returned (tv (Rg.jd c t))∧Below w.heap.size w w'∧Dr w w':=by
 unfold tv;have BH:=aj fun W=>abf c hc W;have AH:=aj fun W=>AV c hc W;go_enter func143,ntmps143;go_upto_region 1 with fail
 obtain ⟨w1,hw1,HX,HY,HB,HD⟩:=Jw w t (0,0,0);rw [show (w.alloc (.cells #[.int .i64 t.1,.int .i64 t.2.1,.int .i64 t.2.2] 68)).alloc (.cells #[.int .i64 0,.int .i64 0,.int .i64 0] 68)=w1 from hw1.symm];clear hw1;have c0:=HX.out.cell (pI t c hc);have c1:=HX.out.cell (pI t (Rg.nx c) (Nat.mod_lt _ aL));have c2:=HX.out.cell (pI t (Rg.pv c) (Rg.o9 c));have hnx:Rg.nx c<3:=Nat.mod_lt _ aL;have hpv:Rg.pv c<3:=Rg.o9 c;refine nC 12 aF aF ?_;simp only [List.take_succ_cons,List.take_zero,List.drop_succ_cons,List.drop_zero];repeat (go_big_quiet_step (first | (go_at_call 186;exact nX fun W hW=>BH.out W) | (go_at_call 144;exact nX fun W hW=>AH.out W)))
 refine wpQuiet_nil ?_;rintro _ ⟨nq,rfl⟩;obtain ⟨W,hW⟩:=aC (w1.drewN nq);rw [←hW];have vS:aB W (w.heap.size+1) (tl (0,0,0)) 68:=by rw [hW];exact HY.out.drewN nq
 have HB2:=aj (show Below w.heap.size w W by rw [hW];exact bV HB.out nq);have HD2:=aj (show Dr w W by rw [hW];exact HD.out.drewN nq);obtain ⟨d0,d1,d2⟩:=bO vS;obtain ⟨f0,f1,f2⟩:=jc vS;have nJ:=aj vS;clear hW c0 c1 c2 vS;go_wp2;have HZ:=aj (((nJ.out.set 0 (.int .i64 (Rg.at' t c))).set 1 (.int .i64 (Rg.at' t (Rg.nx c)))).set 2 (.int .i64 (Rg.at' t (Rg.pv c))));exact bodyPost_ret (v:=.agg #[.int .i64 (Rg.at' t c),.int .i64 (Rg.at' t (Rg.nx c)),.int .i64 (Rg.at' t (Rg.pv c))]) (Qy rfl HZ.out results143) rfl ⟨rfl,((HB2.out.setCell aH _).setCell aH _).setCell aH _,((HD2.out.setCell _ _).setCell _ _).setCell _ _⟩
structure eB (w:World) where
 it:World
 low:Below w.heap.size w it
 dr:Dr w it
instance {w:World}:Nonempty (eB w):=⟨⟨w,Below.refl _ w,Dr.refl w⟩⟩
theorem EP {P:Program} {id:Nat} {Q:Exit→Act→World→Prop} {a:Act} {w:World} {l:List Oper} (hm:P.follows .mixedOrders=true) (hB:Region.lexB .any l.toArray=true)
  (h:wpQuiet P l.toArray (fun w'=>∃ p:eB w,w'=p.it) (fun a'=>∀ w',(∃ p:eB w,w'=p.it)→Q .normal a' w') l a):(Code.region id l.toArray true).wp P Q a w:=
 wp_region_quiet (C:=fun w'=>∃ p:eB w,w'=p.it) hm hB ⟨⟨_,(Below.refl _ w).drew,⟨1,rfl⟩⟩,rfl⟩ (by simpa using h)
theorem eB.call {P:Program} {f:FuncId} {args:Array Value} {w:World} {p:eB w} {v:Value}
  (h:Calls P f args p.it fun e w'=>e=.returned v∧Below p.it.heap.size p.it w'∧Dr p.it w'):Calls P f args p.it fun e w''=>e=.returned v∧∃ q:eB w,w''=q.it:=
 h.mono fun _ _ ⟨he,hb,hd⟩=>⟨he,⟨_,aI p.low hb,p.dr.trans hd⟩,rfl⟩
theorem eB.keep {w:World} (p:eB w) {b o:Nat} {v:Value} (hc:w.cell? ⟨b,o,none⟩=some v):p.it.cell? ⟨b,o,none⟩=some v:=aD p.low hc
theorem Jz {w w':World} (h:Below w.heap.size w w') (d:Dr w w'):∃ q os,w'=Go.Sort.grow (w.drewN q) os:=by
 obtain ⟨q,hq⟩:=d;refine ⟨q,w'.heap.extract w.heap.size w'.heap.size,?_⟩;have hh:w'.heap=w.heap++w'.heap.extract w.heap.size w'.heap.size:=by apply Array.ext_getElem?;intro k;rw [Array.getElem?_append];split;{rename_i hk;exact h.block k hk};{rename_i hk;rw [Array.getElem?_extract];have hs:=h.size;by_cases hk2:k<w'.heap.size;{rw [if_pos ay,show w.heap.size+(k-w.heap.size)=k by omega]};{rw [if_neg ay,Array.getElem?_eq_none ay]}}
 obtain ⟨h1,h2,h3,h4,h5⟩:=w';have e1:=h.tape;have e2:=h.os;have e3:=h.output;simp only at e1 e2 e3 hq hh;subst e1 e2 e3 hq;unfold Go.Sort.grow World.drewN;simp only [World.mk.injEq,and_true,true_and];exact hh
theorem abk (x y:Rg.T) (c bc:Nat) (hc:c<3) (w:World) (hb:w.cell? ⟨bc,0,none⟩=some (.int .i64 c)) :
  Calls prog 142 #[tv x,tv y,.pointer (some ⟨bc,0,none⟩)] w fun e w'=>e=.returned (.int .i64 (Rg.cf c x y))∧Below w.heap.size w w'∧Dr w w':=by
 unfold tv;go_enter func142,ntmps142;go_upto_region 1 with fail
 obtain ⟨w1,hw1,HX,HY,HB,HD⟩:=Jw w x y;rw [←hw1];clear hw1;have g0:=fun q:eB w1=>q.keep (aD HB.out hb);have g1:=fun q:eB w1=>q.keep (lQ HX.out).1;have g2:=fun q:eB w1=>q.keep (lQ HX.out).2.1;have g3:=fun q:eB w1=>q.keep (lQ HX.out).2.2;have g4:=fun q:eB w1=>q.keep (lQ HY.out).1;have g5:=fun q:eB w1=>q.keep (lQ HY.out).2.1;have g6:=fun q:eB w1=>q.keep (lQ HY.out).2.2;have T1:=aj fun q:eB w1=>Qz x c hc q.it;have T2:=aj fun q:eB w1=>Qz y c hc q.it;have CM:=aj fun q:eB w1=>Jy (Rg.jd c x) (Rg.jd c y) q.it;unfold tv at T1 T2 CM;have hcf:Rg.cmp (Rg.jd c x) (Rg.jd c y)=Rg.cf c x y:=rfl;rw [hcf] at CM;generalize Rg.jd c x=rx at *;generalize Rg.jd c y=ry at *;obtain ⟨r,hr⟩:=aC (Rg.cf c x y);rw [←hr] at CM;have HR:=aj hr;clear hb HX HY hr;refine EP aF aF ?_;repeat (go_big_quiet_step (first | (go_at_call 143;with_reducible exact eB.call (T1.out _)) | (go_at_call 143;with_reducible exact eB.call (T2.out _)) | (go_at_call 110;with_reducible exact eB.call (CM.out _))))
 refine wpQuiet_nil ?_;rintro _ ⟨q,rfl⟩;go_wp2;go_ret;exact ⟨by rw [←HR.out];rfl,aI HB.out q.low,HD.out.trans q.dr⟩
def kC (w:World) (p:Nat) (l:List Rg.T):Prop:=l.Pairwise Rg.lt∧(∀ t∈l,Rg.Ok t)∧l.length≤100∧∃ pw:Nat→Nat,∀ c,c<3→w.cell? ⟨p,c,none⟩=some (.pointer (some ⟨pw c,0,none⟩))∧lJ w (pw c) (Rg.A l c) 10
theorem kC.keep {w w':World} {p:Nat} {l:List Rg.T} (h:kC w p l) (hb:Below w.heap.size w w'):kC w' p l:=by obtain ⟨h1,h2,h3,pw,h4⟩:=h;exact ⟨h1,h2,h3,pw,fun c hc=>⟨aD hb (h4 c hc).1,(h4 c hc).2.keep hb⟩⟩
theorem kC.nodup {w:World} {p:Nat} {l:List Rg.T} (h:kC w p l):l.Nodup:=h.1.imp fun {a b} hab=>by intro e;subst e;exact Rg.lt_irrefl _ hab
theorem QA (p wd:Nat) (l:List Nat) (w:World) (h:lJ w p l wd):Calls prog 222 #[.pointer (some ⟨p,0,none⟩)] w fun e w'=>e=.returned (.int .i64 l.length)∧w'=w:=by obtain ⟨_,_,_,ad,cap,c0,_⟩:=h;exact Ig p _ w c0
theorem abl (p:Nat) (l:List Rg.T) (w:World) (h:kC w p l):Calls prog 188 #[.pointer (some ⟨p,0,none⟩)] w fun e w'=>e=.returned (.int .i64 l.length)∧w'=w:=by
 obtain ⟨_,_,_,pw,h4⟩:=h;have c0:=(h4 0 ay).1;have WL:=QA (pw 0) 10 _ w (h4 0 ay).2;rw [Rg.xU] at WL;clear h4;go_enter func188,ntmps188;go_wp2_with (go_at_call 222;refine WL.mono ?_;rintro e w' ⟨rfl,rfl⟩)
 go_ret;exact ⟨rfl,rfl⟩
theorem ER (p c:Nat) (l:List Rg.T) (P:Rg.T→Bool) (v:Int) (w:World) (h:kC w p l) (hc:c<3) (hP:Rg.Lower c P) (hv:-9223372036854775808≤v) :
  Calls prog 189 #[.pointer (some ⟨p,0,none⟩),.int .i64 c,.int .i64 (l.countP P:Nat),.int .i64 v] w fun e w'=>e=.returned (.int .i64 (l.countP (Rg.iR c v P):Nat))∧Below w.heap.size w w':=by
 have hnd:=h.nodup;obtain ⟨h1,h2,h3,pw,h4⟩:=h;obtain ⟨c0,hw⟩:=h4 c hc;have hs:=Rg.step_eq hc hnd h2 hP v;have hcp:l.countP P≤l.length:=List.countP_le_length;have hcp2:l.countP (Rg.iR c v P)≤l.length:=List.countP_le_length;have hal:=Rg.xU l c;have WL:=aj fun W (hb:Below w.heap.size w W)=>QA (pw c) 10 _ W (hw.keep hb);have WC:=aj fun W (hb:Below w.heap.size w W)=>Oi (pw c) 10 _ 0 l.length v 1000 W (hw.keep hb) ay;have WR:=aj fun W (hb:Below w.heap.size w W)=>YA (pw c) 10 _ v (l.countP P:Nat) W (hw.keep hb) hv;rw [Wv.Xu,hal] at WC WR;rw [hal] at WL;have e1:Wv.ko l.length (l.length:Int)=l.length:=by unfold Wv.ko;omega
 have e2:Wv.ko l.length ((l.countP P:Nat):Int)=l.countP P:=by unfold Wv.ko;omega
 rw [e1] at WC;rw [e2] at WR;have e3:(Rg.A l c).take l.length=Rg.A l c:=by rw [←hal,List.take_length]
 rw [e3] at WC;have k1:=Wv.NJ (Rg.A l c) v 1000;have k2:=Wv.NJ ((Rg.A l c).take (l.countP P)) v v;rw [hal] at k1;rw [List.length_take] at k2;have hs2:(l.length:Int)-(Wv.mI (Rg.A l c) v 1000:Nat)+(Wv.mI ((Rg.A l c).take (l.countP P)) v v:Nat)=(l.countP (Rg.iR c v P):Nat):=hs;generalize Wv.mI (Rg.A l c) v 1000=x1 at *;generalize Wv.mI ((Rg.A l c).take (l.countP P)) v v=x2 at *;generalize l.countP (Rg.iR c v P)=r at *;generalize l.countP P=i at *;have HS:=aj hs2;clear h1 h2 h4 hs hs2 hw e1 e2 e3 hP hal hnd;go_enter func189,ntmps189;go_upto_region 2 with fail
 have WL0:=WL.out w (Below.refl _ _);have WC0:=WC.out w (Below.refl _ _);go_wp2_with (first | (go_at_call 222;refine WL0.mono ?_;rintro e w' ⟨rfl,rfl⟩) | (go_at_call 223;refine WC0.mono ?_;rintro e w2 ⟨rfl,hb2⟩))
 go_wp2_with ((go_at_call 224;refine (WR.out w2 hb2).mono ?_;rintro e w3 ⟨rfl,hb3⟩))
 go_ret;exact ⟨by rw [HS.out];rfl,aI hb2 hb3⟩
theorem abm (t:Rg.T) (w:World):Calls prog 187 #[tv t] w fun e w'=>e=.returned (.int .i64 (Rg.start t:Nat))∧Below w.heap.size w w':=by
 unfold tv;have AH:=aj fun c hc W=>AV c hc W;go_enter func187,ntmps187;go_upto_region 1 with fail
 obtain ⟨w1,hw1,HX,HB,HD,hz⟩:=EO w t;rw [←hw1];clear hw1;go_wp2;go_loopw [4] (fun s4 wr=>∃ i:Nat,i≤3∧s4=.int .i64 i∧wr=w1∧Hid (∀ j,j<i→¬ (Rg.at' t j=0∧Rg.at' t (Rg.pv j)≠0))) (fun s4 _=>3-(intOf s4).toNat)
 case atStart=>exact ⟨0,ay,rfl,rfl,fun j hj=>absurd hj (Nat.not_lt_zero _)⟩
 case round=>
  obtain ⟨i,hi,rfl,eD,HE⟩:=hrel;subst eD;by_cases hlt:i<3
  · have hpv:=Rg.o9 i;have c0:=HX.out.cell (pI t i hlt);have c1:=HX.out.cell (pI t (Rg.pv i) hpv);by_cases h0:Rg.at' t i=0
    · rw [h0] at c0;by_cases h1:Rg.at' t (Rg.pv i)=0
      · rw [h1] at c1;have H1:=aj h1;clear h0 h1;(go_wp2_with (go_at_call 144;refine (AH.out _ hlt _).mono ?_;rintro e w' ⟨rfl,rfl⟩));go_roundw
        (case rel=>refine ⟨i+1,ay,aN,trivial,fun j hj=>?_⟩;by_cases hji:j<i;{exact HE.out j hji};{obtain rfl:j=i:=ay;intro h;exact h.2 H1.out});case measure=>simp [intOf];omega
      {have H0:=aj h0;have H1:=aj h1;clear h0;(go_wp2_with (go_at_call 144;refine (AH.out _ hlt _).mono ?_;rintro e w' ⟨rfl,rfl⟩));go_ret;refine ⟨?_,HB.out⟩;have he:=HE.out;have hs:Rg.start t=i:=(by have a0:=H0.out;have a1:=H1.out;have b0:=he 0;have b1:=he 1;unfold Rg.start;rcases Rg.c3 hlt with rfl | rfl | rfl <;> simp [Rg.at',Rg.pv] at a0 a1 b0 b1 ⊢ <;> (repeat' split) <;> first | rfl | omega);rw [hs];rfl}
    · have H0:=aj h0;(go_wp2_with (go_at_call 144;refine (AH.out _ hlt _).mono ?_;rintro e w' ⟨rfl,rfl⟩));go_roundw
      (case rel=>refine ⟨i+1,ay,aN,trivial,fun j hj=>?_⟩;by_cases hji:j<i;{exact HE.out j hji};{obtain rfl:j=i:=ay;intro h;exact H0.out h.1});case measure=>simp [intOf];omega
  {obtain rfl:i=3:=ay;have hs:Rg.start t=0:=(by have b0:=HE.out 0 ay;have b1:=HE.out 1 ay;have b2:=HE.out 2 ay;unfold Rg.start;simp [Rg.at',Rg.pv] at b0 b1 b2 ⊢;(repeat' split) <;> first | rfl | omega);have HS:=aj hs;clear hs;go_wp2;go_ret;exact ⟨by rw [HS.out];rfl,HB.out⟩}
theorem yx (w:World) (a b c:Value) (t:TypeId):∃ w1,w1=w.alloc (.cells #[a,b,c] t)∧Hid (aB w1 w.heap.size [a,b,c] t)∧Hid (Below w.heap.size w w1):=
 ⟨_,rfl,aB.new w [a,b,c] t,(Below.refl _ _).alloc aG _⟩
theorem ET {w:World} {b:Nat} {x y z:Value} {t:TypeId} (h:aB w b [x,y,z] t) (v0 v1 v2:Value):aB (((w.setCell ⟨b,0,none⟩ v0).setCell ⟨b,1,none⟩ v1).setCell ⟨b,2,none⟩ v2) b [v0,v1,v2] t:=((h.set 0 v0).set 1 v1).set 2 v2
theorem EU {w X:World} {b:Nat} (h:Below w.heap.size w X) (hb:w.heap.size≤b) (v0 v1 v2:Value):Below w.heap.size w (((X.setCell ⟨b,0,none⟩ v0).setCell ⟨b,1,none⟩ v1).setCell ⟨b,2,none⟩ v2):=((h.setCell hb _).setCell hb _).setCell hb _
theorem QB {X:World} {b q:Nat} {A:List Value} {t:TypeId} (h:aB X q A t) (hb:q≠b) (v0 v1 v2:Value):aB (((X.setCell ⟨b,0,none⟩ v0).setCell ⟨b,1,none⟩ v1).setCell ⟨b,2,none⟩ v2) q A t:=((h.other hb 0 v0).other hb 1 v1).other hb 2 v2
theorem QC {fn:Func} {tmps:Array Value} {Z:World} {b k:Nat} {v0 v1 v2:Value} (ht:tmps.getD k undef=.pointer (some ⟨b,0,none⟩)) (hZ:aB Z b [v0,v1,v2] 244) (hf:fn.results=#[.cell k 244]) :
  (results fn tmps).run prog Z=.ok (.agg #[v0,v1,v2]) Z:=by
 obtain ⟨h0,h1,h2⟩:=bO hZ;have ht':tmps[k]?.getD undef=.pointer (some ⟨b,0,none⟩):=by simpa using ht
 simp [results,hf,ht',go_sem,h0,h1,h2]
def fv (l:List Rg.T) (r:Nat×(Rg.T→Bool)×(Rg.T→Bool)):Value:=.agg #[.int .i64 r.1,.int .i64 (l.countP r.2.1:Nat),.int .i64 (l.countP r.2.2:Nat)]
theorem abn (p:Nat) (l:List Rg.T) (t:Rg.T) (w:World) (h:kC w p l) (ht:∀ c,c<3→-9223372036854775808≤Rg.at' t c) :
  Calls prog 150 #[.pointer (some ⟨p,0,none⟩),tv t] w fun e w'=>e=.returned (fv l (Rg.dJ t))∧Below w.heap.size w w':=by
 have AH:=aj fun c hc W=>AV c hc W;have BG:=aj fun W=>abm t W;have HR:=aj h;have HT:=aj ht;have ST:=aj (Rg.start_lt t);clear h ht;unfold tv at *;go_enter func150,ntmps150;go_upto_region 1 with fail
 obtain ⟨w1,hw1,HX,HB,HD,hz⟩:=EO w t;rw [←hw1];clear hw1;obtain ⟨w2,hw2,HY,HB2⟩:=yx w1 (.int .i64 0) (.int .i64 0) (.int .i64 0) 244;rw [hz] at HY;rw [←hw2];have c0:=(lQ (HX.out.keep HB2.out)).1;have c1:=(lQ (HX.out.keep HB2.out)).2.1;have c2:=(lQ (HX.out.keep HB2.out)).2.2;have hz2:w2.heap.size=w.heap.size+1+1:=by rw [hw2];simp [hz]
 clear hw2;go_upto_region 2 with (go_at_call 187;refine (BG.out _).mono ?_;rintro e w3 ⟨rfl,hb3⟩)
 have RL:=abl p l w3 (HR.out.keep (aI (aI HB.out HB2.out) hb3));have aP:=aj (aI (aI HB.out HB2.out) hb3);have jy:=aj ((HX.out.keep HB2.out).keep hb3);have yA:=aj (HY.out.keep hb3);have qJ:=hb3.size;have HL:=aj (show l.length≤100 from HR.out.2.2.1);clear HX HY HB HB2 HD hb3 BG c0 c1 c2;go_upto_region 3 with (go_at_call 188;refine RL.mono ?_;rintro e w4 ⟨rfl,rfl⟩)
 have hle:=aP.out.size;obtain ⟨w5,bG,gQ,aQ⟩:=yx w4 (.int .i64 (Rg.start t:Nat)) (.int .i64 0) (.int .i64 l.length) 244;rw [←bG];have jW:=aj (jy.out.keep aQ.out);have JA:=aj (yA.out.keep aQ.out);have aR:=aj (aI aP.out aQ.out);clear bG jy yA aP RL;go_wp2;go_loopw [13,5] (fun s13 s5 wr=>∃ (k c:Nat) (P Q:Rg.T→Bool),k≤3∧c<3∧s13=.int .i64 k∧s5=.int .i64 c∧Hid (Below w.heap.size w wr)∧Hid (aB wr w.heap.size (tl t) 68)∧Hid (aB wr (w.heap.size+1) [.int .i64 0,.int .i64 0,.int .i64 0] 244) ∧
   Hid (aB wr w4.heap.size [.int .i64 c,.int .i64 (l.countP P:Nat),.int .i64 (l.countP Q:Nat)] 244)∧Hid (Rg.way t (3-k) c P Q=Rg.dJ t)∧Hid (Rg.Lower c P)∧Hid (Rg.Lower c Q)) (fun s13 s5 _=>3-(intOf s13).toNat)
 case atStart=>refine ⟨0,Rg.start t,(fun _=>false),(fun _=>true),ay,ST.out,rfl,rfl,aR.out,jW.out,JA.out,?_,rfl,fun _ _ _ h=>h,fun _ _ _ h=>h⟩;have e1:l.countP (fun _=>false)=0:=aH;have e2:l.countP (fun _=>true)=l.length:=aH;rw [e1,e2];exact gQ.out
 case round=>
  obtain ⟨k,c,P,Q,hk,hc,rfl,rfl,HB,HX,HY,HF,HW,HP,HQ⟩:=hrel;have hcl:=HL.out;have q1:l.countP P≤l.length:=List.countP_le_length;have q2:l.countP Q≤l.length:=List.countP_le_length;by_cases hlt:k<3
  · have hpv:=Rg.o9 c;have c0:=HX.out.cell (pI t (Rg.pv c) hpv);by_cases h0:Rg.at' t (Rg.pv c)=0;{rw [h0] at c0;have hw:Rg.dJ t=(c,P,Q):=(by rw [←HW.out,show 3-k=(3-k-1)+1 by omega];unfold Rg.way;rw [if_pos h0]);have EW:=aj hw;obtain ⟨d0,d1,d2⟩:=bO HF.out;obtain ⟨r0,r1,r2⟩:=bO HY.out;obtain ⟨s0,s1,s2⟩:=jc HY.out;clear h0 hw;(go_wp2_with (go_at_call 144;refine (AH.out _ hc _).mono ?_;rintro e w' ⟨rfl,rfl⟩));have HZ:=aj (ET HY.out (.int .i64 c) (.int .i64 (l.countP P:Nat)) (.int .i64 (l.countP Q:Nat)));exact bodyPost_ret (v:=fv l (c,P,Q)) (QC rfl HZ.out results150) rfl ⟨by rw [EW.out],EU HB.out ay _ _ _⟩}
    · have hv:=HT.out (Rg.pv c) hpv;obtain ⟨x,hx⟩:=aC (Rg.at' t (Rg.pv c));rw [←hx] at c0 h0 hv;obtain ⟨d0,d1,d2⟩:=bO HF.out;have AX:=HR.out.keep HB.out;have S1:=aj fun q:Later wr.heap.size wr=>ER p c l P x q.it (AX.keep q.low) hc HP.out hv;have S2:=aj fun q:Later wr.heap.size wr=>ER p c l Q x q.it (AX.keep q.low) hc HQ.out hv;have g0:=fun q:Later wr.heap.size wr=>q.keep c0;have g1:=fun q:Later wr.heap.size wr=>q.keep d0;have g2:=fun q:Later wr.heap.size wr=>q.keep d1;have g3:=fun q:Later wr.heap.size wr=>q.keep d2;have hnw:Rg.way t (3-(k+1)) (Rg.pv c) (Rg.iR c x P) (Rg.iR c x Q)=Rg.dJ t:=by
       rw [←HW.out,show 3-k=(3-(k+1))+1 by omega];conv=>rhs;unfold Rg.way
       rw [←hx,if_neg h0]
      have HNW:=aj hnw;have lS:=aj (Rg.Dz hc x HP.out);have t_:=aj (Rg.Dz hc x HQ.out);obtain ⟨n1,hn1⟩:=aC (l.countP (Rg.iR c x P));obtain ⟨n2,hn2⟩:=aC (l.countP (Rg.iR c x Q));rw [←hn1] at S1;rw [←hn2] at S2;have HN1:=aj hn1;have fE:=aj hn2;clear hx AX hnw hn1 hn2 HW;(go_upto_region 6 with (go_at_call 144;refine (AH.out _ hc _).mono ?_;rintro e w' ⟨rfl,eD⟩;have hw2:=eD.symm;subst hw2));refine M4 21 wr.heap.size aF aF ?_;simp only [List.take_succ_cons,List.take_zero,List.drop_succ_cons,List.drop_zero];(repeat (go_big_quiet_step (first | (go_at_call 144;with_reducible exact Later.lF (AH.out _ hc _)) | (go_at_call 189;with_reducible exact Later.call aG (S1.out _)) | (go_at_call 189;with_reducible exact Later.call aG (S2.out _)))));refine wpQuiet_nil ?_;rintro wq ⟨q,hq⟩;have hlow:Below wr.heap.size wr wq:=(by rw [hq];exact q.low);have JB:=aj (HF.out.keep hlow);have QD:=aj (HX.out.keep hlow);have HYq:=aj (HY.out.keep hlow);have d_:=aj (aI HB.out hlow);obtain ⟨k0,k1,k2⟩:=bO JB.out;obtain ⟨s0,s1,s2⟩:=jc JB.out;have ahy:=QD.out.lt;clear g0 g1 g2 g3 d0 d1 d2 c0 S1 S2 hq q hlow;(go_upto_region 7 with fail);(go_wp2_with (go_at_call 144;refine (AH.out _ hc _).mono ?_;rintro e w' ⟨rfl,rfl⟩));go_roundw
      (case rel=>refine ⟨k+1,Rg.pv c,Rg.iR c x P,Rg.iR c x Q,ay,hpv,aN,rfl,aj (EU d_.out ay _ _ _),aj (QB QD.out ay _ _ _),aj (QB HYq.out ay _ _ _),aj ?_,HNW,lS,t_⟩;rw [←HN1.out,←fE.out];exact ET JB.out _ _ _);case measure=>simp [intOf];omega
  {obtain rfl:k=3:=ay;have hw:Rg.dJ t=(c,P,Q):=(by rw [←HW.out];rfl);have EW:=aj hw;obtain ⟨d0,d1,d2⟩:=bO HF.out;obtain ⟨r0,r1,r2⟩:=bO HY.out;obtain ⟨s0,s1,s2⟩:=jc HY.out;clear hw;go_wp2;have HZ:=aj (ET HY.out (.int .i64 c) (.int .i64 (l.countP P:Nat)) (.int .i64 (l.countP Q:Nat)));exact bodyPost_ret (v:=fv l (c,P,Q)) (QC rfl HZ.out results150) rfl ⟨by rw [EW.out],EU HB.out ay _ _ _⟩}
def JC (t:Rg.T) (d:Nat) (v:Int):Rg.T:=if d=0 then (v,t.2.1,t.2.2) else if d=1 then (t.1,v,t.2.2) else (t.1,t.2.1,v)
theorem abo (t:Rg.T) (d:Nat) (v:Int) (h:d<3):(tl t).set d (.int .i64 v)=tl (JC t d v):=by rcases Rg.c3 h with rfl | rfl | rfl <;> rfl
theorem at_set (t:Rg.T) (d e:Nat) (v:Int) (h:d<3) (k:e<3):Rg.at' (JC t d v) e=if e=d then v else Rg.at' t e:=by rcases Rg.c3 h with rfl | rfl | rfl <;> rcases Rg.c3 k with rfl | rfl | rfl <;> rfl
theorem abp {a b:Rg.T} (h:∀ d,d<3→Rg.at' a d=Rg.at' b d):a=b:=Rg.ext (h 0 ay) (h 1 ay) (h 2 ay)
def fH (c k:Nat):Nat:=(c+2*k) % 3
theorem JD (c k:Nat):fH c k<3:=Nat.mod_lt _ aL
theorem QE (c:Nat) (h:c<3):fH c 0=c:=by unfold fH;omega
theorem QF (c k:Nat):Rg.pv (fH c k)=fH c (k+1):=by unfold fH Rg.pv;omega
theorem abq {l:List Rg.T} {c i:Nat} {t:Rg.T} (h:(Rg.O l c)[i]?=some t) (ht:Rg.Ok t):(((Rg.A l c).getD i 0:Nat):Int)=Rg.at' t (Rg.pv c):=by unfold Rg.A;rw [List.getD,List.getElem?_map,h];have:=ht (Rg.pv c) (Rg.o9 c);simp;omega
theorem abr (w:World):∃ w1,w1=(w.alloc (.cells #[.int .i64 0,.int .i64 0,.int .i64 0] 68)).alloc (.cells #[.int .i64 0,.int .i64 0,.int .i64 0] 68)∧Hid (aB w1 w.heap.size (tl (0,0,0)) 68)∧Hid (aB w1 (w.heap.size+1) (tl (0,0,0)) 68)∧Hid (Below w.heap.size w w1):=
 ⟨_,rfl,(aB.new w (tl (0,0,0)) 68).alloc _,aB.new' aH rfl,((Below.refl _ _).alloc aG _).alloc aH _⟩
theorem abt (p c i:Nat) (l:List Rg.T) (t:Rg.T) (w:World) (h:kC w p l) (hc:c<3) (hi:(Rg.O l c)[i]?=some t) :
  Calls prog 151 #[.pointer (some ⟨p,0,none⟩),.int .i64 c,.int .i64 i] w fun e w'=>e=.returned (tv t)∧Below w.heap.size w w':=by
 have hil:i<l.length:=by have:=(List.getElem?_eq_some_iff.1 hi).1;rwa [Rg.nE] at this
 obtain ⟨hidx,hmem⟩:=Rg.Xx hc h.nodup hil hi;have HR:=aj h;have HM:=aj hmem;have rT:=aj h.nodup;have jX:=aj (h.2.1 t hmem);have HL:=aj (show l.length≤100 from h.2.2.1);have AH:=aj fun c hc W=>AV c hc W;have HI:=aj hidx;clear h hmem hi hidx;go_enter func151,ntmps151;go_upto_region 2 with fail
 obtain ⟨w1,hw1,HX,HY,HB⟩:=abr w;rw [show (w.alloc (.cells #[.int .i64 0,.int .i64 0,.int .i64 0] 68)).alloc (.cells #[.int .i64 0,.int .i64 0,.int .i64 0] 68)=w1 from hw1.symm];clear hw1;go_wp2;go_loopw [9,1,2] (fun s9 s1 s2 wr=>∃ (k:Nat) (tc:Rg.T),k≤3∧s9=.int .i64 k∧s1=.int .i64 (fH c k:Nat)∧s2=.int .i64 (l.countP (fun s=>decide (Rg.iQ (fH c k) s t)):Nat)∧Hid (Below w.heap.size w wr)∧Hid (aB wr w.heap.size (tl (0,0,0)) 68)∧Hid (aB wr (w.heap.size+1) (tl tc) 68)∧Hid (∀ j,1≤j→j≤k→Rg.at' tc (fH c j)=Rg.at' t (fH c j))) (fun s9 _ _ _=>3-(intOf s9).toNat)
 case atStart=>refine ⟨0,(0,0,0),ay,rfl,by rw [QE c hc],?_,HB.out,HX.out,HY.out,fun j h1 h2=>ay⟩;rw [QE c hc,HI.out]
 case round=>
  obtain ⟨k,tc,hk,rfl,rfl,rfl,HB,HX,HY,HD⟩:=hrel;have hcl:=HL.out;have hck:=JD c k;obtain ⟨q1,q2⟩:=Rg.Xw hck rT.out HM.out;by_cases hlt:k<3
  · have AX:=HR.out.keep HB.out;obtain ⟨_,_,_,pw,h4⟩:=AX;obtain ⟨c0,hwv⟩:=h4 _ hck;have ha:=abq q2 jX.out;have hst:=ER p (fH c k) l (fun s=>decide (Rg.iQ (fH c k) s t)) (Rg.at' t (Rg.pv (fH c k))) wr;have hP:Rg.iR (fH c k) (Rg.at' t (Rg.pv (fH c k))) (fun s=>decide (Rg.iQ (fH c k) s t))=fun s=>decide (Rg.iQ (Rg.pv (fH c k)) s t):=funext fun s=>Rg.Xz hck s t;have hv:=jX.out (Rg.pv (fH c k)) (Rg.o9 _);have WA:=YB (pw (fH c k)) 10 (l.countP (fun s=>decide (Rg.iQ (fH c k) s t))) (Rg.A l (fH c k)) wr hwv (by rw [Rg.xU];exact q1);rw [ha] at WA;have ST:=aj fun W (hb:Below wr.heap.size wr W)=>ER p (fH c k) l (fun s=>decide (Rg.iQ (fH c k) s t)) (Rg.at' t (Rg.pv (fH c k))) W ((HR.out.keep HB.out).keep hb) hck (Rg.Xy t) ay;rw [hP] at ST;have hd:=JD c (k+1);rw [QF] at WA ST hv;obtain ⟨x,hx⟩:=aC (Rg.at' t (fH c (k+1)));rw [←hx] at WA ST hv;have JE:=aj hx;clear hst hP q2 ha hwv h4 hx;have QG:=aj fun W=>AH.out (fH c k) hck W;rw [QF] at QG;have ST0:=ST.out wr (Below.refl _ _);generalize hi0:l.countP (fun s=>decide (Rg.iQ (fH c k) s t))=i0 at *;generalize hi1:l.countP (fun s=>decide (Rg.iQ (fH c (k+1)) s t))=i1 at *;have HI1:=aj hi1;clear hi0 hi1 ST0;(go_upto_region 5 with (go_at_call 190;refine WA.mono ?_;rintro e w2 ⟨rfl,hb2⟩));have ST2:=ST.out w2 hb2;have HB2:=aj hb2;clear ST WA;(go_upto_region 6 with (go_at_call 189;refine ST2.mono ?_;rintro e w3 ⟨rfl,hb3⟩));have nJ:=aj (HY.out.keep (aI HB2.out hb3));have lT:=aj (HX.out.keep (aI HB2.out hb3));have HB3:=aj (aI HB.out (aI HB2.out hb3));have c1:=nJ.out.cell (pI tc _ hd);have f1:=nJ.out.free (fH c (k+1));clear ST2 hb3 HY HX HB HB2 hb2 c0;generalize hdd:fH c (k+1)=d at *;have oI:=aj hdd;clear hdd;(go_wp2_with (go_at_call 144;refine (QG.out _).mono ?_;rintro e w' ⟨rfl,eD⟩;have hw2:=eD.symm;subst hw2));go_roundw
    (case rel=>refine ⟨k+1,JC tc d x,ay,aN,by rw [oI.out],by rw [oI.out,HI1.out],HB3.out.setCell (by show w.heap.size≤w.heap.size+1;omega) _,lT.out.other ay _ _,?_,?_⟩;{rw [←abo _ _ _ hd];exact nJ.out.set d _};{intro j h1 h2;have hj:=JD c j;rw [at_set _ _ _ _ hd hj];split;{rename_i e;rw [e];exact JE.out};{rename_i e;refine HD.out j h1 ?_;have:j≠k+1:=(by intro e';apply e;rw [e'];exact oI.out);omega}});case measure=>simp [intOf];omega
  {obtain rfl:k=3:=ay;have hte:tc=t:=abp fun d hd=>(by obtain ⟨j,h1,h2,h3⟩:∃ j,1≤j∧j≤3∧fH c j=d:=(by rcases Rg.c3 hc with rfl | rfl | rfl <;> rcases Rg.c3 hd with rfl | rfl | rfl;{exact ⟨3,ay,ay,rfl⟩};{exact ⟨2,ay,ay,rfl⟩};{exact ⟨1,ay,ay,rfl⟩};{exact ⟨1,ay,ay,rfl⟩};{exact ⟨3,ay,ay,rfl⟩};{exact ⟨2,ay,ay,rfl⟩};{exact ⟨2,ay,ay,rfl⟩};{exact ⟨1,ay,ay,rfl⟩};{exact ⟨3,ay,ay,rfl⟩});rw [←h3];exact HD.out j h1 h2);subst hte;have d0:=(lQ HY.out).1;have d1:=(lQ HY.out).2.1;have d2:=(lQ HY.out).2.2;obtain ⟨r0,r1,r2⟩:=bO HX.out;obtain ⟨s0,s1,s2⟩:=jc HX.out;clear q1 q2;go_wp2;have HZ:=aj (ET HX.out (.int .i64 tc.1) (.int .i64 tc.2.1) (.int .i64 tc.2.2));exact bodyPost_ret (v:=tv tc) (Qy rfl HZ.out results151) rfl ⟨rfl,EU HB.out ay _ _ _⟩}
theorem abu (t:Rg.T) (c:Nat) (hc:c<3) (w:World):(Instr.index 68 (.agg #[.int .i64 t.1,.int .i64 t.2.1,.int .i64 t.2.2]) (.int .i64 c)).run prog w=.ok (.int .i64 (Rg.at' t c)) w:=by rcases Rg.c3 hc with rfl | rfl | rfl <;> simp [Instr.index,run_underlying underlying68,asIntOf,go_sem,Rg.at',sizeOf3,isAgg3]
end Go.Proofs.YtockbaekcbeenaaGreatDoor
