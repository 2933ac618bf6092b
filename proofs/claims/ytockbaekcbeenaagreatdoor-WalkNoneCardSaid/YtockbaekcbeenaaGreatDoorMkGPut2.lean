/-GPut2-/
import Derived.Test.YtockbaekcbeenaaGreatDoorMkHd1
import Derived.Test.YtockbaekcbeenaaGreatDoorMkGSo2
import Derived.Test.YtockbaekcbeenaaGreatDoorMkGPar
set_option linter.unusedVariables false
set_option maxRecDepth 100000
set_option linter.unusedSimpArgs false
set_option maxHeartbeats 8000000
namespace Go.Proofs.YtockbaekcbeenaaGreatDoor
open Go.Proofs.Tryz
open Go Go.ChangeShapes Go.WideShapes Go.ChangeAt Go.RowKit
theorem agJ (w:World) (k1:Int) (t1 x1:List UInt8) (k2:Int) (t2 x2:List UInt8) (k3:Int) (t3 x3:List UInt8) (l1:Int) (u1 y1:List UInt8) (l2:Int) (u2 y2:List UInt8) (l3:Int) (u3 y3:List UInt8):∃ W,W=aX (aX w k1 t1 x1 k2 t2 x2 k3 t3 x3) l1 u1 y1 l2 u2 y2 l3 u3 y3∧aB W w.heap.size [.int .i64 k1,aA t1,aA x1,.int .i64 k2,aA t2,aA x2,.int .i64 k3,aA t3,aA x3] 65∧aB W (w.heap.size+1) [.int .i64 l1,aA u1,aA y1,.int .i64 l2,aA u2,aA y2,.int .i64 l3,aA u3,aA y3] 65∧Below w.heap.size w W:=
 ⟨_,rfl,(iU w _ _ _ _ _ _ _ _ _).alloc _,aB.new' (by unfold aX;simp) rfl,((Below.refl _ _).alloc aG _).alloc aH _⟩
theorem agK (k1:Nat) (t1 x1:List UInt8) (k2:Nat) (t2 x2:List UInt8) (k3:Nat) (t3 x3:List UInt8) (l1:Nat) (u1 y1:List UInt8) (l2:Nat) (u2 y2:List UInt8) (l3:Nat) (u3 y3:List UInt8) (w:World) (hk1:1≤k1∧k1≤5) (ht1:t1.length≤1000000000) (hx1:x1.length≤1000000000) (hk2:1≤k2∧k2≤5) (ht2:t2.length≤1000000000) (hx2:x2.length≤1000000000) (hk3:1≤k3∧k3≤5) (ht3:t3.length≤1000000000) (hx3:x3.length≤1000000000) (hl1:1≤l1∧l1≤5) (hu1:u1.length≤1000000000) (hy1:y1.length≤1000000000) (hl2:1≤l2∧l2≤5) (hu2:u2.length≤1000000000) (hy2:y2.length≤1000000000) (hl3:1≤l3∧l3≤5) (hu3:u3.length≤1000000000) (hy3:y3.length≤1000000000) :
  Calls prog 77 #[gu (k1:Nat) t1 x1 (k2:Nat) t2 x2 (k3:Nat) t3 x3,gu (l1:Nat) u1 y1 (l2:Nat) u2 y2 (l3:Nat) u3 y3] w fun e w'=>e=.returned (.int .i64 (Tm.kT (Tm.aO k1 t1 x1) (Tm.aO k2 t2 x2) (Tm.aO k3 t3 x3) (Tm.aO l1 u1 y1) (Tm.aO l2 u2 y2) (Tm.aO l3 u3 y3)))∧Below w.heap.size w w':=by have C1:=aj (fun W=>F6 k1 l1 t1 x1 u1 y1 W hk1 hl1 ht1 hx1 hu1 hy1);have C2:=aj (fun W=>F6 k2 l2 t2 x2 u2 y2 W hk2 hl2 ht2 hx2 hu2 hy2);have C3:=aj (fun W=>F6 k3 l3 t3 x3 u3 y3 W hk3 hl3 ht3 hx3 hu3 hy3);obtain ⟨R,hR⟩:=aC (Tm.kT (Tm.aO k1 t1 x1) (Tm.aO k2 t2 x2) (Tm.aO k3 t3 x3) (Tm.aO l1 u1 y1) (Tm.aO l2 u2 y2) (Tm.aO l3 u3 y3));rw [←hR];unfold Tm.kT at hR;obtain ⟨c1,e1⟩:=aC (Tm.cmp (Tm.aO k1 t1 x1) (Tm.aO l1 u1 y1));rw [←e1] at hR C1;obtain ⟨c2,e2⟩:=aC (Tm.cmp (Tm.aO k2 t2 x2) (Tm.aO l2 u2 y2));rw [←e2] at hR C2;obtain ⟨c3,e3⟩:=aC (Tm.cmp (Tm.aO k3 t3 x3) (Tm.aO l3 u3 y3));rw [←e3] at hR C3;have HR:=aj hR;clear hR e1 e2 e3;obtain ⟨w1,hw1,HA,HC,HB⟩:=agJ w (k1:Nat) t1 x1 (k2:Nat) t2 x2 (k3:Nat) t3 x3 (l1:Nat) u1 y1 (l2:Nat) u2 y2 (l3:Nat) u3 y3;have HA:=aj HA;have HC:=aj HC;have HB:=aj HB;by_cases h1:c1=0;{have hb1:(c1==0)=true:=beq_iff_eq.2 h1;by_cases h2:c2=0;{have hb2:(c2==0)=true:=beq_iff_eq.2 h2;have HF:=aj (show R=c3 by rw [HR.out,if_pos h1,if_pos h2]);go_enter func77,ntmps77;(go_wp2_with (show wpList _ _ _ _ _ (aX (aX w (k1:Nat) t1 x1 (k2:Nat) t2 x2 (k3:Nat) t3 x3) (l1:Nat) u1 y1 (l2:Nat) u2 y2 (l3:Nat) u3 y3);rw [←hw1];clear hw1;have g0:=HA.out.cell (i:=0) rfl;have j0:=HC.out.cell (i:=0) rfl;have g1:=HA.out.cell (i:=1) rfl;have j1:=HC.out.cell (i:=1) rfl;have g2:=HA.out.cell (i:=2) rfl;have j2:=HC.out.cell (i:=2) rfl));refine (C1.out _).mono ?_;rintro e w2 ⟨rfl,hlow⟩;have HB2:=aj (aI HB.out hlow);have HA2:=aj (HA.out.keep hlow);have kY:=aj (HC.out.keep hlow);clear hlow;have g3:=HA2.out.cell (i:=3) rfl;have g4:=HA2.out.cell (i:=4) rfl;have g5:=HA2.out.cell (i:=5) rfl;have j3:=kY.out.cell (i:=3) rfl;have j4:=kY.out.cell (i:=4) rfl;have j5:=kY.out.cell (i:=5) rfl;(go_wp2_with fail);refine (C2.out _).mono ?_;rintro e w3 ⟨rfl,hlow⟩;have HB3:=aj (aI HB2.out hlow);have qR:=aj (HA2.out.keep hlow);have MN:=aj (kY.out.keep hlow);clear hlow;have g6:=qR.out.cell (i:=6) rfl;have g7:=qR.out.cell (i:=7) rfl;have g8:=qR.out.cell (i:=8) rfl;have j6:=MN.out.cell (i:=6) rfl;have j7:=MN.out.cell (i:=7) rfl;have j8:=MN.out.cell (i:=8) rfl;(go_wp2_with fail);refine (C3.out _).mono ?_;rintro e w4 ⟨rfl,hlow⟩;have aP:=aj (aI HB3.out hlow);go_wp2;go_ret;exact ⟨by rw [HF.out];rfl,aP.out⟩};{have hb2:(c2==0)=false:=beq_eq_false_iff_ne.2 h2;have HF:=aj (show R=c2 by rw [HR.out,if_pos h1,if_neg h2]);go_enter func77,ntmps77;(go_wp2_with (show wpList _ _ _ _ _ (aX (aX w (k1:Nat) t1 x1 (k2:Nat) t2 x2 (k3:Nat) t3 x3) (l1:Nat) u1 y1 (l2:Nat) u2 y2 (l3:Nat) u3 y3);rw [←hw1];clear hw1;have g0:=HA.out.cell (i:=0) rfl;have j0:=HC.out.cell (i:=0) rfl;have g1:=HA.out.cell (i:=1) rfl;have j1:=HC.out.cell (i:=1) rfl;have g2:=HA.out.cell (i:=2) rfl;have j2:=HC.out.cell (i:=2) rfl));refine (C1.out _).mono ?_;rintro e w2 ⟨rfl,hlow⟩;have HB2:=aj (aI HB.out hlow);have HA2:=aj (HA.out.keep hlow);have kY:=aj (HC.out.keep hlow);clear hlow;have g3:=HA2.out.cell (i:=3) rfl;have g4:=HA2.out.cell (i:=4) rfl;have g5:=HA2.out.cell (i:=5) rfl;have j3:=kY.out.cell (i:=3) rfl;have j4:=kY.out.cell (i:=4) rfl;have j5:=kY.out.cell (i:=5) rfl;(go_wp2_with fail);refine (C2.out _).mono ?_;rintro e w3 ⟨rfl,hlow⟩;have HB3:=aj (aI HB2.out hlow);go_wp2;go_ret;exact ⟨by rw [HF.out];rfl,HB3.out⟩}};{have hb1:(c1==0)=false:=beq_eq_false_iff_ne.2 h1;have HF:=aj (show R=c1 by rw [HR.out,if_neg h1]);go_enter func77,ntmps77;(go_wp2_with (show wpList _ _ _ _ _ (aX (aX w (k1:Nat) t1 x1 (k2:Nat) t2 x2 (k3:Nat) t3 x3) (l1:Nat) u1 y1 (l2:Nat) u2 y2 (l3:Nat) u3 y3);rw [←hw1];clear hw1;have g0:=HA.out.cell (i:=0) rfl;have j0:=HC.out.cell (i:=0) rfl;have g1:=HA.out.cell (i:=1) rfl;have j1:=HC.out.cell (i:=1) rfl;have g2:=HA.out.cell (i:=2) rfl;have j2:=HC.out.cell (i:=2) rfl));refine (C1.out _).mono ?_;rintro e w2 ⟨rfl,hlow⟩;have HB2:=aj (aI HB.out hlow);go_wp2;go_ret;exact ⟨by rw [HF.out];rfl,HB2.out⟩}
theorem agL (p q:TR) (hp:Tm.bf p=true) (hq:Tm.bf q=true) (W:World):Calls prog 77 #[rP p,rP q] W fun e w'=>e=.returned (.int .i64 (Tm.bP p q))∧Below W.heap.size W w':=by obtain ⟨_,_,a1,a2,a3⟩:=Tm.rR hp;obtain ⟨_,_,b1,b2,b3⟩:=Tm.rR hq;have c1:=Tm.iV a1;have c2:=Tm.iV a2;have c3:=Tm.iV a3;have d1:=Tm.iV b1;have d2:=Tm.iV b2;have d3:=Tm.iV b3;obtain ⟨n1,e1,_,_⟩:=Tm.iD a1;obtain ⟨n2,e2,_,_⟩:=Tm.iD a2;obtain ⟨n3,e3,_,_⟩:=Tm.iD a3;obtain ⟨m1,f1,_,_⟩:=Tm.iD b1;obtain ⟨m2,f2,_,_⟩:=Tm.iD b2;obtain ⟨m3,f3,_,_⟩:=Tm.iD b3;exact agK _ _ _ _ _ _ _ _ _ _ _ _ _ _ _ _ _ _ W ay ay ay ay ay ay ay ay ay ay ay ay ay ay ay ay ay ay
theorem Vb {L:List TR} {t:TR} {i:Nat} (hi:i≤L.length) (hlo:∀ j (h:j<L.length),j<i→Tm.bP L[j] t<0) (hhi:∀ h:i<L.length,¬ Tm.bP L[i] t<0) :
  (L.takeWhile fun a=>decide (Tm.bP a t<0))=L.take i∧(L.dropWhile fun a=>decide (Tm.bP a t<0))=L.drop i:=by
 have h1:∀ d∈L.take i,decide (Tm.bP d t<0)=true:=fun d hd=>by obtain ⟨j,hj,rfl⟩:=List.getElem_of_mem hd;rw [List.length_take] at hj;rw [List.getElem_take];exact decide_eq_true (hlo j ay ay)
 have e:=List.take_append_drop i L;rcases Nat.lt_or_ge i L.length with h | h;{have hd:L.drop i=L[i]::L.drop (i+1):=List.drop_eq_getElem_cons h;have h2:=KV (p:=fun a=>decide (Tm.bP a t<0)) (l:=L.take i) L[i] (L.drop (i+1)) h1 (decide_eq_false (hhi h));rw [←hd,e] at h2;exact h2};{have hd:L.drop i=[]:=List.drop_eq_nil_of_le h;have ht:L.take i=L:=List.take_of_length_le h;rw [ht] at h1;rw [hd,ht];exact KW (p:=fun a=>decide (Tm.bP a t<0)) h1}
theorem agM {L:List TR} {t:TR} {i:Nat} (hi:i<L.length) (hlo:∀ j (h:j<L.length),j<i→Tm.bP L[j] t<0) (h0:Tm.bP L[i] t=0) (hv:∀ a∈L,Tm.bf a=true) (ht:Tm.bf t=true):Tm.put L t=L:=by obtain ⟨_,h2⟩:=Vb (Nat.le_of_lt hi) hlo (fun _=>ay);have e:=(Tm.Jq (hv _ (List.getElem_mem hi)) ht).1 h0;unfold Tm.put;rw [h2,List.drop_eq_getElem_cons hi,if_pos (by rw [e];exact beq_self_eq_true _)]
theorem Vd {L:List TR} {t:TR} {i:Nat} (hi:i≤L.length) (hlo:∀ j (h:j<L.length),j<i→Tm.bP L[j] t<0) (hhi:∀ h:i<L.length,0<Tm.bP L[i] t):Tm.put L t=L.take i++t::L.drop i:=by obtain ⟨h1,h2⟩:=Vb hi hlo (fun h=>by have:=hhi h;omega);unfold Tm.put;rw [h1,h2,if_neg];intro h;rcases Nat.lt_or_ge i L.length with h3 | h3;{rw [List.drop_eq_getElem_cons h3,List.head?_cons] at h;have e:L[i]=t:=Option.some.inj (eq_of_beq h);have h4:=hhi h3;have:=Tm.pG L[i] t;rw [e] at h4;have h5:=Tm.pG t t;omega};{rw [List.drop_eq_nil_of_le h3] at h;exact absurd (eq_of_beq h) aH}
theorem zI:∀ (l:List TR),(cZ l).length=l.length*9
 | []=>rfl
 | t::l=>by
  have h:cZ (t::l)=(aY t).cells++cZ l:=rfl
  rw [h,List.length_append,zI l,List.length_cons]
  show 9+_=_
  omega
theorem uZ (l:List TR):∀ u∈cZ l,u.oneCell'=true:=by intro u hu;unfold cZ at hu;obtain ⟨t,_,ht⟩:=List.mem_flatMap.1 hu;exact uN t u ht
theorem agN (a b:List TR):cZ (a++b)=cZ a++cZ b:=by simp [cZ]
theorem o7 {W:World} {a:Option Addr} {m c:Nat} {l:List TR} (h:b_ W (.slice a m c) (l.map aY)):m=l.length∧(a=none→m=0∧c=0)∧∀ ad,a=some ad→∀ j u,(cZ l)[j]?=some u→W.cell? (ad.add j)=some u:=by
 obtain ⟨a',c',e,h1,h2,h3,h4⟩:=h;simp only [Value.slice.injEq] at e;obtain ⟨rfl,rfl,rfl⟩:=e;simp only [List.length_map] at h1 h4 ⊢;refine ⟨trivial,fun h=>⟨by have:=h3 h;omega,h3 h⟩,fun ad had j u hu=>?_⟩;have hj:j<l.length*9:=by have:=(List.getElem?_eq_some_iff.1 hu).1;rwa [zI] at this
 rcases h4 with h4 | ⟨b,off,hb,hc⟩;{omega};{rw [hb] at had;cases had;have h5:=hc (j / 9) ay (j % 9) (Nat.mod_lt _ ay);rw [List.getElem_map,←KL l (j / 9) (j % 9) ay (Nat.mod_lt _ ay),show j / 9*9+j % 9=j by omega,hu] at h5;rw [show off+j / 9*9+j % 9=off+j by omega] at h5;rw [lG rfl];exact h5}
theorem rA {W w1:World} {q:Nat} {A:List Value} {t:TypeId} {row:Option Nat} (h:aB W q A t) (hg:W.grownBy w1 row) (hne:row≠some q):aB w1 q A t:=by have hlt:=h.lt;unfold aB at h ⊢;rw [hg.block q hlt (fun e=>hne e.symm)];exact h
theorem G6 {W:World} {b:Nat} {A:List Value} {t:TypeId} (h:aB W b A t):∀ ad,some (⟨b,0,none⟩:Addr)=some ad→∀ j u,A[j]?=some u→W.cell? (ad.add j)=some u:=by intro ad had j u hu;cases had;rw [lG rfl,Nat.zero_add];exact h.cell hu
theorem MO (W:World) (B:Nat) (hB:B≤W.heap.size):(W.alloc (.cells #[] 65)).ownsRow B 65 9 (.slice (some ⟨W.heap.size,0,none⟩) 0 0) 0 []:=by have h:=World.ownsRow_made W (#[]:Array Value) 0 aG (by unfold maxLen;omega) rfl (e:=65) (size:=9);obtain ⟨h1,h2⟩:=h;refine ⟨h1,?_⟩;rcases h2 with h2 | ⟨g,cap,cur,e,hg,rest⟩;{exact .inl h2};{exact .inr ⟨g,cap,cur,e,ay,rest⟩}
theorem Ve (W:World) (B:Nat) (o:Obj) (hB:B≤W.heap.size):((W.drew.alloc o).alloc (.cells #[] 65)).ownsRow B 65 9 (.slice (some ⟨W.heap.size+1,0,none⟩) 0 0) 0 []:=by have h:=MO (W.drew.alloc o) B (by simp;show B≤W.heap.size+1;omega);have e:(W.drew.alloc o).heap.size=W.heap.size+1:=aH;rw [e] at h;exact h
theorem Vf (W:World) (A:List Value):aB (W.drew.alloc (.cells A.toArray 65)) W.heap.size A 65:=aB.new W.drew A 65
theorem Vg (W:World) (o:Obj) (A:List Value) (t:TypeId):aB ((W.drew.alloc o).alloc (.cells A.toArray t)) (W.heap.size+1) A t:=by have h:=aB.new (W.drew.alloc o) A t;have e:(W.drew.alloc o).heap.size=W.heap.size+1:=aH;rw [e] at h;exact h
theorem Vh {L:List TR} {t:TR} {i N B:Nat} {w3:World} {v3:Value} (h:w3.ownsRow B 65 9 v3 N ((([]++cZ (L.take i))++(aY t).cells)++cZ (L.drop i))) (hN:N=(L.take i++t::L.drop i).length):b_ w3 v3 ((L.take i++t::L.drop i).map aY):=by subst hN;refine KM (B:=B) ?_;rw [agN,show cZ (t::L.drop i)=(aY t).cells++cZ (L.drop i) from rfl,←List.append_assoc];exact h
theorem agO (L:List TR) (hl:∀ t∈L,Tm.bf t=true) (hn:L.length≤100000) (t:TR) (ht:Tm.bf t=true) (w:World) (v:Value) (hv:b_ w v (L.map aY)) :
  Calls prog 49 #[v,rP t] w fun e w'=>∃ v',e=.returned v'∧b_ w' v' ((Tm.put L t).map aY)∧Below w.heap.size w w':=by
 obtain ⟨a,cap,rfl,hc1,hc2,hc3⟩:=hv.open;have HV:=aj hv;have HL:=aj hl;rw [List.length_map] at HV hc1 ⊢;obtain ⟨n,hn0⟩:=aC L.length;rw [←hn0] at HV hn hc1 ⊢;have HN:=aj hn0;have HT:=aj ht;have CP:=aj (fun (x:TR) (hx:Tm.bf x=true) W=>agL x t hx ht W);obtain ⟨⟨n1,t1,x1⟩,⟨n2,t2,x2⟩,n3,t3,x3⟩:=t;have HB1:=aj (show Below w.heap.size w (aX w n1 t1 x1 n2 t2 x2 n3 t3 x3) from (Below.refl _ _).alloc aG _);have jE:=aj (iU w n1 t1 x1 n2 t2 x2 n3 t3 x3);clear hv hl ht hn0;go_enter func49,ntmps49;go_upto_region 1 with fail
 show Code.wp _ _ _ _ (aX w n1 t1 x1 n2 t2 x2 n3 t3 x3);obtain ⟨wb,hwb⟩:=aC (aX w n1 t1 x1 n2 t2 x2 n3 t3 x3);rw [←hwb] at HB1 jE ⊢;clear hwb;go_wp2;go_loopg [5] n (fun gk s5 wr=>∃ (i:Nat),s5=.int .i64 i∧i≤n∧n-i≤gk∧Hid (Below wb.heap.size wb wr)∧Hid (∀ j (h:j<L.length),j<i→Tm.bP L[j] ((n1,t1,x1),(n2,t2,x2),n3,t3,x3)<0))
 case atStart=>exact ⟨0,aN,Nat.zero_le _,Nat.le_refl _,Below.refl _ _,aj (fun j h h2=>absurd h2 (Nat.not_lt_zero _))⟩
 case round=>
  obtain ⟨i,rfl,hin,hg,HB,gX⟩:=hrel;have K4:=aj (jE.out.keep HB.out);by_cases hlt:i<n
  · have hltz:(i:Int)<(n:Int):=ay;have K5:decide ((i:Int)<(n:Int))=true:=decide_eq_true hltz;have dz:i<L.length:=(by rw [←HN.out];exact hlt);have K6:=aj (HL.out L[i] (List.getElem_mem dz));have jB:=aj ((HV.out.keep HB1.out).keep HB.out);obtain ⟨bl,off,hab,hrow⟩:=jB.out.get (i:=i) (by rw [List.length_map];exact dz);have HRW:=aj (hrow i (by rw [List.length_map];exact dz));rw [List.getElem_map] at HRW;have sD:=aj (fun W=>CP.out L[i] K6.out W);obtain ⟨r,hr⟩:=aC (Tm.bP L[i] ((n1,t1,x1),(n2,t2,x2),n3,t3,x3));rw [←hr] at sD;have HR:=aj hr;obtain ⟨p,hp⟩:=aC (L[i]);rw [←hp] at HRW sD;clear hp hr hrow;obtain ⟨⟨m1,u1,y1⟩,⟨m2,u2,y2⟩,m3,u3,y3⟩:=p;have mV:=aj hab;subst hab;have sF:Hid (∀ W,Calls prog 77 #[gu (m1:Nat) u1 y1 (m2:Nat) u2 y2 (m3:Nat) u3 y3,gu (n1:Nat) t1 x1 (n2:Nat) t2 x2 (n3:Nat) t3 x3] W fun e w'=>e=.returned (.int .i64 r)∧Below W.heap.size W w'):=sD;clear sD;have c0:=HRW.out 0 ay;have c1:=HRW.out 1 ay;have c2:=HRW.out 2 ay;have c3:=HRW.out 3 ay;have c4:=HRW.out 4 ay;have c5:=HRW.out 5 ay;have c6:=HRW.out 6 ay;have c7:=HRW.out 7 ay;have c8:=HRW.out 8 ay;simp only [aY,dD.cells,List.getElem?_cons_zero,List.getElem?_cons_succ,Nat.add_zero] at c0 c1 c2 c3 c4 c5 c6 c7 c8;have k0:=fun p:Later wr.heap.size wr=>p.keep c0;have k1:=fun p:Later wr.heap.size wr=>p.keep c1;have k2:=fun p:Later wr.heap.size wr=>p.keep c2;have k3:=fun p:Later wr.heap.size wr=>p.keep c3;have k4:=fun p:Later wr.heap.size wr=>p.keep c4;have k5:=fun p:Later wr.heap.size wr=>p.keep c5;have k6:=fun p:Later wr.heap.size wr=>p.keep c6;have k7:=fun p:Later wr.heap.size wr=>p.keep c7;have k8:=fun p:Later wr.heap.size wr=>p.keep c8;obtain ⟨d0,d1,d2,d3,d4,d5,d6,d7,d8⟩:=fB K4.out;have j0:=fun p:Later wr.heap.size wr=>p.keep d0;have j1:=fun p:Later wr.heap.size wr=>p.keep d1;have j2:=fun p:Later wr.heap.size wr=>p.keep d2;have j3:=fun p:Later wr.heap.size wr=>p.keep d3;have j4:=fun p:Later wr.heap.size wr=>p.keep d4;have j5:=fun p:Later wr.heap.size wr=>p.keep d5;have j6:=fun p:Later wr.heap.size wr=>p.keep d6;have j7:=fun p:Later wr.heap.size wr=>p.keep d7;have j8:=fun p:Later wr.heap.size wr=>p.keep d8;by_cases hneg:r<0
    · have dn:decide (r<0)=true:=decide_eq_true hneg;(go_upto_region 2 with fail);refine dP wr.heap.size aF aF ?_;(repeat (go_big_quiet_step (first | (go_at_call 77;with_reducible exact Later.call aG (sF.out _)))));refine wpQuiet_nil ?_;rintro wq ⟨q,hq⟩;have d_:=aj (show Below wb.heap.size wb wq by rw [hq];exact aI HB.out q.low);clear hq q k0 k1 k2 k3 k4 k5 k6 k7 k8 j0 j1 j2 j3 j4 j5 j6 j7 j8;go_wp2;go_roundg (n-(i+1))
      (case measure=>omega);case rel=>exact ⟨i+1,aN,ay,ay,d_.out,by
       show ∀ _,_;intro j h hj;rcases Nat.lt_or_ge j i with h2 | h2;{exact gX.out j h h2}
       · obtain rfl:j=i:=ay;rw [←HR.out];exact hneg⟩
    · have dn:decide (r<0)=false:=decide_eq_false hneg;(go_upto_region 2 with fail);refine dP wr.heap.size aF aF ?_;(repeat (go_big_quiet_step (first | (go_at_call 77;with_reducible exact Later.call aG (sF.out _)))));refine wpQuiet_nil ?_;clear k0 k1 k2 k3 k4 k5 k6 k7 k8 j0 j1 j2 j3 j4 j5 j6 j7 j8;rintro wq ⟨q,hq⟩;have d_:=aj (show Below wb.heap.size wb wq by rw [hq];exact aI HB.out q.low);have dh:=aj (show Below wr.heap.size wr wq by rw [hq];exact q.low);clear hq q;by_cases hz0:r=0;{subst hz0;have mZ:=aj (show Tm.put L ((n1,t1,x1),(n2,t2,x2),n3,t3,x3)=L from agM dz gX.out HR.out.symm HL.out HT.out);(go_upto_region 4 with fail);have k0:=fun p:Later wq.heap.size wq=>p.keep (aD dh.out c0);have k1:=fun p:Later wq.heap.size wq=>p.keep (aD dh.out c1);have k2:=fun p:Later wq.heap.size wq=>p.keep (aD dh.out c2);have k3:=fun p:Later wq.heap.size wq=>p.keep (aD dh.out c3);have k4:=fun p:Later wq.heap.size wq=>p.keep (aD dh.out c4);have k5:=fun p:Later wq.heap.size wq=>p.keep (aD dh.out c5);have k6:=fun p:Later wq.heap.size wq=>p.keep (aD dh.out c6);have k7:=fun p:Later wq.heap.size wq=>p.keep (aD dh.out c7);have k8:=fun p:Later wq.heap.size wq=>p.keep (aD dh.out c8);have j0:=fun p:Later wq.heap.size wq=>p.keep (aD dh.out d0);have j1:=fun p:Later wq.heap.size wq=>p.keep (aD dh.out d1);have j2:=fun p:Later wq.heap.size wq=>p.keep (aD dh.out d2);have j3:=fun p:Later wq.heap.size wq=>p.keep (aD dh.out d3);have j4:=fun p:Later wq.heap.size wq=>p.keep (aD dh.out d4);have j5:=fun p:Later wq.heap.size wq=>p.keep (aD dh.out d5);have j6:=fun p:Later wq.heap.size wq=>p.keep (aD dh.out d6);have j7:=fun p:Later wq.heap.size wq=>p.keep (aD dh.out d7);have j8:=fun p:Later wq.heap.size wq=>p.keep (aD dh.out d8);refine dP wq.heap.size aF aF ?_;(repeat (go_big_quiet_step (first | (go_at_call 77;with_reducible exact Later.call aG (sF.out _)))));refine wpQuiet_nil ?_;rintro wq2 ⟨q,hq⟩;clear k0 k1 k2 k3 k4 k5 k6 k7 k8 j0 j1 j2 j3 j4 j5 j6 j7 j8 c0 c1 c2 c3 c4 c5 c6 c7 c8 d0 d1 d2 d3 d4 d5 d6 d7 d8;have yY:=aj (show Below wb.heap.size wb wq2 by rw [hq];exact aI d_.out q.low);clear hq q;go_wp2;go_ret;exact ⟨_,rfl,by rw [mZ.out];exact (HV.out.keep HB1.out).keep yY.out,HB1.out.trans (yY.out.mono HB1.out.size)⟩}
      · have ahX:(r==0)=false:=beq_eq_false_iff_ne.2 hz0;have mZ:=aj (show Tm.put L ((n1,t1,x1),(n2,t2,x2),n3,t3,x3)=L.take i++((n1,t1,x1),(n2,t2,x2),n3,t3,x3)::L.drop i from Vd (by rw [←HN.out];exact hin) gX.out (fun h=>by rw [←HR.out];omega));(go_upto_region 4 with fail);have k0:=fun p:Later wq.heap.size wq=>p.keep (aD dh.out c0);have k1:=fun p:Later wq.heap.size wq=>p.keep (aD dh.out c1);have k2:=fun p:Later wq.heap.size wq=>p.keep (aD dh.out c2);have k3:=fun p:Later wq.heap.size wq=>p.keep (aD dh.out c3);have k4:=fun p:Later wq.heap.size wq=>p.keep (aD dh.out c4);have k5:=fun p:Later wq.heap.size wq=>p.keep (aD dh.out c5);have k6:=fun p:Later wq.heap.size wq=>p.keep (aD dh.out c6);have k7:=fun p:Later wq.heap.size wq=>p.keep (aD dh.out c7);have k8:=fun p:Later wq.heap.size wq=>p.keep (aD dh.out c8);have j0:=fun p:Later wq.heap.size wq=>p.keep (aD dh.out d0);have j1:=fun p:Later wq.heap.size wq=>p.keep (aD dh.out d1);have j2:=fun p:Later wq.heap.size wq=>p.keep (aD dh.out d2);have j3:=fun p:Later wq.heap.size wq=>p.keep (aD dh.out d3);have j4:=fun p:Later wq.heap.size wq=>p.keep (aD dh.out d4);have j5:=fun p:Later wq.heap.size wq=>p.keep (aD dh.out d5);have j6:=fun p:Later wq.heap.size wq=>p.keep (aD dh.out d6);have j7:=fun p:Later wq.heap.size wq=>p.keep (aD dh.out d7);have j8:=fun p:Later wq.heap.size wq=>p.keep (aD dh.out d8);refine dP wq.heap.size aF aF ?_;(repeat (go_big_quiet_step (first | (go_at_call 77;with_reducible exact Later.call aG (sF.out _)))));refine wpQuiet_nil ?_;rintro wq2 ⟨q,hq⟩;clear k0 k1 k2 k3 k4 k5 k6 k7 k8 j0 j1 j2 j3 j4 j5 j6 j7 j8 c0 c1 c2 c3 c4 c5 c6 c7 c8 d0 d1 d2 d3 d4 d5 d6 d7 d8;have aR:=aj (show Below wb.heap.size wb wq2 by rw [hq];exact aI d_.out q.low);have gF:=aj (show aB wq2 w.heap.size [.int .i64 (n1:Nat),aA t1,aA x1,.int .i64 (n2:Nat),aA t2,aA x2,.int .i64 (n3:Nat),aA t3,aA x3] 65 from jE.out.keep aR.out);have hzb:=jE.out.lt;clear hq q;obtain ⟨w6,eP⟩:=aC wq2;rw [←eP] at aR gF ⊢;clear eP;have hic:i<cap:=ay;have hA1:i≤cap:=ay;have aeL:¬ cap=i:=ay;have hA2:(i:Int)≤(cap:Int):=ay;have hA3:(n:Int)≤(cap:Int):=ay;have hA4:(i:Int)≤(n:Int):=ay;have o_:=aj ((HV.out.front i ay).keep HB1.out);have m_:=aj (show b_ wb (.slice (some ⟨bl,off,none⟩) i cap) ((L.take i).map aY) by rw [List.map_take];exact o_.out);have hlt1:(L.take i).length=i:=(by rw [List.length_take,←HN.out];omega);have lY:=aj (o7 m_.out).2.1;have lZ:=aj (show (cZ (L.take i)).length=i*9 by rw [zI,hlt1]);have F1:=aj (fun W (hW:Below wb.heap.size wb W)=>(o7 (m_.out.keep hW)).2.2);have jF:=aj (show b_ wb (.slice (some ⟨bl,off+i*9,none⟩) (n-i) (cap-i)) ((L.drop i).map aY) by rw [List.map_drop];exact (HV.out.back i ay).keep HB1.out);have wI:=aj (o7 jF.out).2.1;have wJ:=aj (show (cZ (L.drop i)).length=(n-i)*9 by rw [zI,←(o7 jF.out).1]);have F2:=aj (fun W (hW:Below wb.heap.size wb W)=>(o7 (jF.out.keep hW)).2.2);have wK:=aj (show 0+i+1+(n-i)=(L.take i++((n1,t1,x1),(n2,t2,x2),n3,t3,x3)::L.drop i).length by have h:=(o7 jF.out).1;rw [List.length_append,List.length_cons,hlt1,←h] <;> omega);clear hlt1;obtain ⟨iS,hi0,dx,dN,dO⟩:=FI;have jg:=aR.out.size;have K7:=gF.out.lt;have OA:=aj (MO w6.drew wb.heap.size jg);have HA:=aj (aR.out.drew.alloc jg (.cells #[] 65));have UA:=aj (show aB (w6.drew.alloc (.cells #[] 65)) w.heap.size [.int .i64 (n1:Nat),aA t1,aA x1,.int .i64 (n2:Nat),aA t2,aA x2,.int .i64 (n3:Nat),aA t3,aA x3] 65 from gF.out.alloc _);have OC:=aj (OA.out.alloc (.cells (aY ((n1,t1,x1),(n2,t2,x2),n3,t3,x3)).cells.toArray 65));have HC:=aj (HA.out.alloc HA.out.size (.cells (aY ((n1,t1,x1),(n2,t2,x2),n3,t3,x3)).cells.toArray 65));have UC:=aj (UA.out.alloc (.cells (aY ((n1,t1,x1),(n2,t2,x2),n3,t3,x3)).cells.toArray 65));have TC:=aj (show aB ((w6.drew.alloc (.cells #[] 65)).alloc (.cells (aY ((n1,t1,x1),(n2,t2,x2),n3,t3,x3)).cells.toArray 65)) (w6.heap.size+1) (aY ((n1,t1,x1),(n2,t2,x2),n3,t3,x3)).cells 65 from Vg w6 _ _ _);have qb:=aj (aR.out.drew.alloc jg (.cells (aY ((n1,t1,x1),(n2,t2,x2),n3,t3,x3)).cells.toArray 65));have OE:=aj (show ((w6.drew.alloc (.cells (aY ((n1,t1,x1),(n2,t2,x2),n3,t3,x3)).cells.toArray 65)).alloc (.cells #[] 65)).ownsRow wb.heap.size 65 9 (.slice (some ⟨w6.heap.size+1,0,none⟩) 0 0) 0 [] from Ve w6 wb.heap.size _ jg);have HE:=aj (qb.out.alloc qb.out.size (.cells #[] 65));have UE:=aj (show aB ((w6.drew.alloc (.cells (aY ((n1,t1,x1),(n2,t2,x2),n3,t3,x3)).cells.toArray 65)).alloc (.cells #[] 65)) w.heap.size [.int .i64 (n1:Nat),aA t1,aA x1,.int .i64 (n2:Nat),aA t2,aA x2,.int .i64 (n3:Nat),aA t3,aA x3] 65 from (gF.out.alloc _).alloc _);have TE:=aj (show aB ((w6.drew.alloc (.cells (aY ((n1,t1,x1),(n2,t2,x2),n3,t3,x3)).cells.toArray 65)).alloc (.cells #[] 65)) w6.heap.size (aY ((n1,t1,x1),(n2,t2,x2),n3,t3,x3)).cells 65 from (Vf w6 _).alloc _);obtain ⟨d0,d1,d2,d3,d4,d5,d6,d7,d8⟩:=fB gF.out;(go_upto_region 6 with fail);go_region_law (first
         | (refine fZ (by rfl) (.tmp 35) (.tmp 38) 22 (by rfl) wb.heap.size 65 iS _ 9 120 underlying22 hi0 dx dN dO rfl aL (.slice (some ⟨w6.heap.size,0,none⟩) 0 0) 0 [] (by rfl) OA.out (some ⟨bl,off,none⟩) i cap (cZ (L.take i)) (by rfl) lY.out lZ.out (F1.out _ HA.out) (uZ _) ?b1 ?b2 ?b3 ?_
            case b1=>(unfold maxLen;omega)
            case b2=>omega
            case b3=>exact HA.out.size
            intro v1 w1 g1 g2 g3
            have G1:=aj g1
            have bS:=aj (HA.out.grown g2 HA.out.size (fun k hk=>(OA.out.lt k hk).1))
            have iy:=aj (rA UA.out g2 (fun e=>by have:=(OA.out.lt _ e).1;omega))
            obtain ⟨k0,k1,k2,k3,k4,k5,k6,k7,k8⟩:=fB iy.out
            clear g1 g2 g3)
         | (refine fZ (by rfl) (.tmp 35) (.tmp 38) 22 (by rfl) wb.heap.size 65 iS _ 9 120 underlying22 hi0 dx dN dO rfl aL (.slice (some ⟨w6.heap.size,0,none⟩) 0 0) 0 [] (by rfl) OC.out (some ⟨bl,off,none⟩) i cap (cZ (L.take i)) (by rfl) lY.out lZ.out (F1.out _ HC.out) (uZ _) ?b1 ?b2 ?b3 ?_
            case b1=>(unfold maxLen;omega)
            case b2=>omega
            case b3=>exact HC.out.size
            intro v1 w1 g1 g2 g3
            have G1:=aj g1
            have bS:=aj (HC.out.grown g2 HC.out.size (fun k hk=>(OC.out.lt k hk).1))
            have iy:=aj (rA UC.out g2 (fun e=>by have:=(OC.out.lt _ e).1;omega))
            have wL:=aj (rA TC.out g2 (fun e=>by simp [Value.ownBlock] at e))
            obtain ⟨k0,k1,k2,k3,k4,k5,k6,k7,k8⟩:=fB iy.out
            clear g1 g2 g3)
         | (refine fZ (by rfl) (.tmp 35) (.tmp 38) 22 (by rfl) wb.heap.size 65 iS _ 9 120 underlying22 hi0 dx dN dO rfl aL (.slice (some ⟨w6.heap.size+1,0,none⟩) 0 0) 0 [] (by rfl) OE.out (some ⟨bl,off,none⟩) i cap (cZ (L.take i)) (by rfl) lY.out lZ.out (F1.out _ HE.out) (uZ _) ?b1 ?b2 ?b3 ?_
            case b1=>(unfold maxLen;omega)
            case b2=>omega
            case b3=>exact HE.out.size
            intro v1 w1 g1 g2 g3
            have G1:=aj g1
            have bS:=aj (HE.out.grown g2 HE.out.size (fun k hk=>(OE.out.lt k hk).1))
            have iy:=aj (rA UE.out g2 (fun e=>by have:=(OE.out.lt _ e).1;omega))
            have jG:=aj (rA TE.out g2 (fun e=>by simp [Value.ownBlock] at e))
            obtain ⟨k0,k1,k2,k3,k4,k5,k6,k7,k8⟩:=fB iy.out
            clear g1 g2 g3)
         | (refine fZ (by rfl) (.tmp 39) (.tmp 41) 22 (by rfl) wb.heap.size 65 iS _ 9 120 underlying22 hi0 dx dN dO rfl aL v1 (0+i) ([]++(cZ (L.take i))) (by rfl) (G1.out.alloc _) (some ⟨w1.heap.size,0,none⟩) 1 1 (aY ((n1,t1,x1),(n2,t2,x2),n3,t3,x3)).cells (by rfl) (fun h=>by cases h) rfl (KN w1 ((n1,t1,x1),(n2,t2,x2),n3,t3,x3)) (uN ((n1,t1,x1),(n2,t2,x2),n3,t3,x3)) ?b1 ?b2 ?b3 ?_
            case b1=>(unfold maxLen;omega)
            case b2=>omega
            case b3=>exact (bS.out.alloc bS.out.size _).size
            intro v2 w2 g1 g2 g3
            have G2:=aj g1
            have gH:=aj ((bS.out.alloc bS.out.size _).grown g2 (bS.out.alloc bS.out.size _).size (fun k hk=>(G1.out.lt k hk).1))
            clear g1 g2 g3)
         | (refine fZ (by rfl) (.tmp 39) (.tmp 41) 22 (by rfl) wb.heap.size 65 iS _ 9 120 underlying22 hi0 dx dN dO rfl aL v1 (0+i) ([]++(cZ (L.take i))) (by rfl) G1.out (some ⟨w6.heap.size+1,0,none⟩) 1 1 (aY ((n1,t1,x1),(n2,t2,x2),n3,t3,x3)).cells (by rfl) (fun h=>by cases h) rfl (G6 wL.out) (uN ((n1,t1,x1),(n2,t2,x2),n3,t3,x3)) ?b1 ?b2 ?b3 ?_
            case b1=>(unfold maxLen;omega)
            case b2=>omega
            case b3=>exact bS.out.size
            intro v2 w2 g1 g2 g3
            have G2:=aj g1
            have gH:=aj (bS.out.grown g2 bS.out.size (fun k hk=>(G1.out.lt k hk).1))
            clear g1 g2 g3)
         | (refine fZ (by rfl) (.tmp 39) (.tmp 41) 22 (by rfl) wb.heap.size 65 iS _ 9 120 underlying22 hi0 dx dN dO rfl aL v1 (0+i) ([]++(cZ (L.take i))) (by rfl) G1.out (some ⟨w6.heap.size,0,none⟩) 1 1 (aY ((n1,t1,x1),(n2,t2,x2),n3,t3,x3)).cells (by rfl) (fun h=>by cases h) rfl (G6 jG.out) (uN ((n1,t1,x1),(n2,t2,x2),n3,t3,x3)) ?b1 ?b2 ?b3 ?_
            case b1=>(unfold maxLen;omega)
            case b2=>omega
            case b3=>exact bS.out.size
            intro v2 w2 g1 g2 g3
            have G2:=aj g1
            have gH:=aj (bS.out.grown g2 bS.out.size (fun k hk=>(G1.out.lt k hk).1))
            clear g1 g2 g3)
         | (refine fZ (by rfl) (.tmp 42) (.tmp 45) 22 (by rfl) wb.heap.size 65 iS _ 9 120 underlying22 hi0 dx dN dO rfl aL v2 (0+i+1) (([]++(cZ (L.take i)))++(aY ((n1,t1,x1),(n2,t2,x2),n3,t3,x3)).cells) (by rfl) G2.out (some ⟨bl,off+i*9,none⟩) (n-i) (cap-i) (cZ (L.drop i)) (by rfl) wI.out wJ.out (F2.out _ gH.out) (uZ _) ?b1 ?b2 ?b3 ?_
            case b1=>(unfold maxLen;omega)
            case b2=>omega
            case b3=>exact gH.out.size
            intro v3 w3 g1 g2 g3
            have G3:=aj g1
            have wN:=aj (gH.out.grown g2 gH.out.size (fun k hk=>(G2.out.lt k hk).1))
            clear g1 g2 g3)
         | fail)
        all_goals
         have sG:=aj (Vh (L:=L) (t:=((n1,t1,x1),(n2,t2,x2),n3,t3,x3)) (i:=i) G3.out wK.out)
         go_wp2
         go_ret
         exact ⟨v3,rfl,by rw [mZ.out];exact sG.out,HB1.out.trans (wN.out.mono HB1.out.size)⟩
  · obtain rfl:i=n:=ay;have hltz:¬ (i:Int)<(i:Int):=ay;have K5:decide ((i:Int)<(i:Int))=false:=decide_eq_false hltz;have mZ:=aj (show Tm.put L ((n1,t1,x1),(n2,t2,x2),n3,t3,x3)=L.take i++((n1,t1,x1),(n2,t2,x2),n3,t3,x3)::L.drop i from Vd (by rw [←HN.out];exact hin) gX.out (fun h=>by have:=HN.out;omega));(go_upto_region 2 with fail);refine dP wr.heap.size aF aF ?_;(repeat (go_big_quiet_step (first | fail)));refine wpQuiet_nil ?_;rintro wq ⟨q,hq⟩;have d_:=aj (show Below wb.heap.size wb wq by rw [hq];exact aI HB.out q.low);clear hq q;(go_upto_region 4 with fail);refine dP wq.heap.size aF aF ?_;(repeat (go_big_quiet_step (first | fail)));refine wpQuiet_nil ?_;rintro wq2 ⟨q,hq⟩;have aR:=aj (show Below wb.heap.size wb wq2 by rw [hq];exact aI d_.out q.low);have gF:=aj (show aB wq2 w.heap.size [.int .i64 (n1:Nat),aA t1,aA x1,.int .i64 (n2:Nat),aA t2,aA x2,.int .i64 (n3:Nat),aA t3,aA x3] 65 from jE.out.keep aR.out);have hzb:=jE.out.lt;clear hq q;obtain ⟨w6,eP⟩:=aC wq2;rw [←eP] at aR gF ⊢;clear eP;have hde:(L.drop i).map aY=[]:=(by rw [List.drop_eq_nil_of_le (by rw [←HN.out];exact Nat.le_refl _)];rfl);obtain ⟨fa,fc,ba,bc,hS1,hS2,K8,hB0⟩:∃ (fa:Option Addr) (fc:Nat) (ba:Option Addr) (bc:Nat),(∀ W,(Instr.sliceAt 22 (.slice a i cap) none (some (.int .i64 (i:Int))) none).run prog W=.ok (.slice fa i fc) W)∧(∀ W,(Instr.sliceAt 22 (.slice a i cap) (some (.int .i64 (i:Int))) none none).run prog W=.ok (.slice ba 0 bc) W)∧b_ wb (.slice fa i fc) ((L.take i).map aY)∧b_ wb (.slice ba 0 bc) ((L.drop i).map aY):=(by have hA1:(i:Int)≤(cap:Int):=ay;have sH:∀ x c,c≤maxLen→(x=none→c=0)→b_ wb (.slice x 0 c) ((L.drop i).map aY):=fun x c h1 h2=>(by rw [hde];exact ⟨_,_,rfl,Nat.zero_le _,h1,h2,.inl rfl⟩);have sI:b_ wb (.slice a i cap) ((L.take i).map aY):=(by rw [List.map_take];exact (HV.out.front i ay).keep HB1.out);have hz0:(0:Nat)≤maxLen:=(by unfold maxLen;omega);rcases Nat.eq_zero_or_pos i with sJ | sJ;{subst sJ;rcases a with _ | ad;{obtain rfl:cap=0:=hc3 rfl;exact ⟨none,0,none,0,fun W=>by simp [go_sem],fun W=>by simp [go_sem],sI,sH _ _ hz0 (fun _=>rfl)⟩};{exact ⟨some ad,cap,some ad,cap,fun W=>by simp [go_sem],fun W=>by simp [go_sem],sI,sH _ _ ay (fun h=>by cases h)⟩}};{obtain ⟨bl,off,rfl,hrow⟩:=HV.out.get (i:=0) (by first | (rw [List.length_map,←HN.out];exact sJ) | (rw [←HN.out];exact sJ));clear hrow;by_cases hck:cap=i;{subst hck;exact ⟨some ⟨bl,off,none⟩,cap,some ⟨bl,off,none⟩,0,fun W=>by simp [go_sem],fun W=>by simp [go_sem],sI,sH _ _ hz0 (fun h=>by cases h)⟩};{have K9:¬ cap-i=0:=ay;exact ⟨some ⟨bl,off,none⟩,cap,some ⟨bl,off+i*9,none⟩,cap-i,fun W=>by simp [go_sem,hA1],fun W=>by simp [go_sem,hA1,hck,K9],sI,sH _ _ ay (fun h=>by cases h)⟩}});obtain ⟨v0,hv0⟩:=aC (Value.slice a i cap);rw [←hv0] at hS1 hS2 ⊢;clear hv0;have hA2:(i:Int)≤(cap:Int):=ay;have m_:=aj K8;have hlt1:(L.take i).length=i:=(by rw [List.length_take,←HN.out];omega);have lY:=aj (o7 m_.out).2.1;have lZ:=aj (show (cZ (L.take i)).length=i*9 by rw [zI,hlt1]);have F1:=aj (fun W (hW:Below wb.heap.size wb W)=>(o7 (m_.out.keep hW)).2.2);have jF:=aj hB0;have wI:=aj (o7 jF.out).2.1;have wJ:=aj (show (cZ (L.drop i)).length=0*9 by rw [zI,←(o7 jF.out).1]);have F2:=aj (fun W (hW:Below wb.heap.size wb W)=>(o7 (jF.out.keep hW)).2.2);have wK:=aj (show 0+i+1+0=(L.take i++((n1,t1,x1),(n2,t2,x2),n3,t3,x3)::L.drop i).length by have h:=(o7 jF.out).1;rw [List.length_append,List.length_cons,hlt1,←h] <;> omega);clear hlt1;obtain ⟨iS,hi0,dx,dN,dO⟩:=FI;have jg:=aR.out.size;have K7:=gF.out.lt;have OA:=aj (MO w6.drew wb.heap.size jg);have HA:=aj (aR.out.drew.alloc jg (.cells #[] 65));have UA:=aj (show aB (w6.drew.alloc (.cells #[] 65)) w.heap.size [.int .i64 (n1:Nat),aA t1,aA x1,.int .i64 (n2:Nat),aA t2,aA x2,.int .i64 (n3:Nat),aA t3,aA x3] 65 from gF.out.alloc _);have OC:=aj (OA.out.alloc (.cells (aY ((n1,t1,x1),(n2,t2,x2),n3,t3,x3)).cells.toArray 65));have HC:=aj (HA.out.alloc HA.out.size (.cells (aY ((n1,t1,x1),(n2,t2,x2),n3,t3,x3)).cells.toArray 65));have UC:=aj (UA.out.alloc (.cells (aY ((n1,t1,x1),(n2,t2,x2),n3,t3,x3)).cells.toArray 65));have TC:=aj (show aB ((w6.drew.alloc (.cells #[] 65)).alloc (.cells (aY ((n1,t1,x1),(n2,t2,x2),n3,t3,x3)).cells.toArray 65)) (w6.heap.size+1) (aY ((n1,t1,x1),(n2,t2,x2),n3,t3,x3)).cells 65 from Vg w6 _ _ _);have qb:=aj (aR.out.drew.alloc jg (.cells (aY ((n1,t1,x1),(n2,t2,x2),n3,t3,x3)).cells.toArray 65));have OE:=aj (show ((w6.drew.alloc (.cells (aY ((n1,t1,x1),(n2,t2,x2),n3,t3,x3)).cells.toArray 65)).alloc (.cells #[] 65)).ownsRow wb.heap.size 65 9 (.slice (some ⟨w6.heap.size+1,0,none⟩) 0 0) 0 [] from Ve w6 wb.heap.size _ jg);have HE:=aj (qb.out.alloc qb.out.size (.cells #[] 65));have UE:=aj (show aB ((w6.drew.alloc (.cells (aY ((n1,t1,x1),(n2,t2,x2),n3,t3,x3)).cells.toArray 65)).alloc (.cells #[] 65)) w.heap.size [.int .i64 (n1:Nat),aA t1,aA x1,.int .i64 (n2:Nat),aA t2,aA x2,.int .i64 (n3:Nat),aA t3,aA x3] 65 from (gF.out.alloc _).alloc _);have TE:=aj (show aB ((w6.drew.alloc (.cells (aY ((n1,t1,x1),(n2,t2,x2),n3,t3,x3)).cells.toArray 65)).alloc (.cells #[] 65)) w6.heap.size (aY ((n1,t1,x1),(n2,t2,x2),n3,t3,x3)).cells 65 from (Vf w6 _).alloc _);obtain ⟨d0,d1,d2,d3,d4,d5,d6,d7,d8⟩:=fB gF.out;(go_upto_region 6 with fail);go_region_law (first
     | (refine fZ (by rfl) (.tmp 35) (.tmp 38) 22 (by rfl) wb.heap.size 65 iS _ 9 120 underlying22 hi0 dx dN dO rfl aL (.slice (some ⟨w6.heap.size,0,none⟩) 0 0) 0 [] (by rfl) OA.out fa i fc (cZ (L.take i)) (by rfl) lY.out lZ.out (F1.out _ HA.out) (uZ _) ?b1 ?b2 ?b3 ?_
        case b1=>(unfold maxLen;omega)
        case b2=>omega
        case b3=>exact HA.out.size
        intro v1 w1 g1 g2 g3
        have G1:=aj g1
        have bS:=aj (HA.out.grown g2 HA.out.size (fun k hk=>(OA.out.lt k hk).1))
        have iy:=aj (rA UA.out g2 (fun e=>by have:=(OA.out.lt _ e).1;omega))
        obtain ⟨k0,k1,k2,k3,k4,k5,k6,k7,k8⟩:=fB iy.out
        clear g1 g2 g3)
     | (refine fZ (by rfl) (.tmp 35) (.tmp 38) 22 (by rfl) wb.heap.size 65 iS _ 9 120 underlying22 hi0 dx dN dO rfl aL (.slice (some ⟨w6.heap.size,0,none⟩) 0 0) 0 [] (by rfl) OC.out fa i fc (cZ (L.take i)) (by rfl) lY.out lZ.out (F1.out _ HC.out) (uZ _) ?b1 ?b2 ?b3 ?_
        case b1=>(unfold maxLen;omega)
        case b2=>omega
        case b3=>exact HC.out.size
        intro v1 w1 g1 g2 g3
        have G1:=aj g1
        have bS:=aj (HC.out.grown g2 HC.out.size (fun k hk=>(OC.out.lt k hk).1))
        have iy:=aj (rA UC.out g2 (fun e=>by have:=(OC.out.lt _ e).1;omega))
        have wL:=aj (rA TC.out g2 (fun e=>by simp [Value.ownBlock] at e))
        obtain ⟨k0,k1,k2,k3,k4,k5,k6,k7,k8⟩:=fB iy.out
        clear g1 g2 g3)
     | (refine fZ (by rfl) (.tmp 35) (.tmp 38) 22 (by rfl) wb.heap.size 65 iS _ 9 120 underlying22 hi0 dx dN dO rfl aL (.slice (some ⟨w6.heap.size+1,0,none⟩) 0 0) 0 [] (by rfl) OE.out fa i fc (cZ (L.take i)) (by rfl) lY.out lZ.out (F1.out _ HE.out) (uZ _) ?b1 ?b2 ?b3 ?_
        case b1=>(unfold maxLen;omega)
        case b2=>omega
        case b3=>exact HE.out.size
        intro v1 w1 g1 g2 g3
        have G1:=aj g1
        have bS:=aj (HE.out.grown g2 HE.out.size (fun k hk=>(OE.out.lt k hk).1))
        have iy:=aj (rA UE.out g2 (fun e=>by have:=(OE.out.lt _ e).1;omega))
        have jG:=aj (rA TE.out g2 (fun e=>by simp [Value.ownBlock] at e))
        obtain ⟨k0,k1,k2,k3,k4,k5,k6,k7,k8⟩:=fB iy.out
        clear g1 g2 g3)
     | (refine fZ (by rfl) (.tmp 39) (.tmp 41) 22 (by rfl) wb.heap.size 65 iS _ 9 120 underlying22 hi0 dx dN dO rfl aL v1 (0+i) ([]++(cZ (L.take i))) (by rfl) (G1.out.alloc _) (some ⟨w1.heap.size,0,none⟩) 1 1 (aY ((n1,t1,x1),(n2,t2,x2),n3,t3,x3)).cells (by rfl) (fun h=>by cases h) rfl (KN w1 ((n1,t1,x1),(n2,t2,x2),n3,t3,x3)) (uN ((n1,t1,x1),(n2,t2,x2),n3,t3,x3)) ?b1 ?b2 ?b3 ?_
        case b1=>(unfold maxLen;omega)
        case b2=>omega
        case b3=>exact (bS.out.alloc bS.out.size _).size
        intro v2 w2 g1 g2 g3
        have G2:=aj g1
        have gH:=aj ((bS.out.alloc bS.out.size _).grown g2 (bS.out.alloc bS.out.size _).size (fun k hk=>(G1.out.lt k hk).1))
        clear g1 g2 g3)
     | (refine fZ (by rfl) (.tmp 39) (.tmp 41) 22 (by rfl) wb.heap.size 65 iS _ 9 120 underlying22 hi0 dx dN dO rfl aL v1 (0+i) ([]++(cZ (L.take i))) (by rfl) G1.out (some ⟨w6.heap.size+1,0,none⟩) 1 1 (aY ((n1,t1,x1),(n2,t2,x2),n3,t3,x3)).cells (by rfl) (fun h=>by cases h) rfl (G6 wL.out) (uN ((n1,t1,x1),(n2,t2,x2),n3,t3,x3)) ?b1 ?b2 ?b3 ?_
        case b1=>(unfold maxLen;omega)
        case b2=>omega
        case b3=>exact bS.out.size
        intro v2 w2 g1 g2 g3
        have G2:=aj g1
        have gH:=aj (bS.out.grown g2 bS.out.size (fun k hk=>(G1.out.lt k hk).1))
        clear g1 g2 g3)
     | (refine fZ (by rfl) (.tmp 39) (.tmp 41) 22 (by rfl) wb.heap.size 65 iS _ 9 120 underlying22 hi0 dx dN dO rfl aL v1 (0+i) ([]++(cZ (L.take i))) (by rfl) G1.out (some ⟨w6.heap.size,0,none⟩) 1 1 (aY ((n1,t1,x1),(n2,t2,x2),n3,t3,x3)).cells (by rfl) (fun h=>by cases h) rfl (G6 jG.out) (uN ((n1,t1,x1),(n2,t2,x2),n3,t3,x3)) ?b1 ?b2 ?b3 ?_
        case b1=>(unfold maxLen;omega)
        case b2=>omega
        case b3=>exact bS.out.size
        intro v2 w2 g1 g2 g3
        have G2:=aj g1
        have gH:=aj (bS.out.grown g2 bS.out.size (fun k hk=>(G1.out.lt k hk).1))
        clear g1 g2 g3)
     | (refine fZ (by rfl) (.tmp 42) (.tmp 45) 22 (by rfl) wb.heap.size 65 iS _ 9 120 underlying22 hi0 dx dN dO rfl aL v2 (0+i+1) (([]++(cZ (L.take i)))++(aY ((n1,t1,x1),(n2,t2,x2),n3,t3,x3)).cells) (by rfl) G2.out ba 0 bc (cZ (L.drop i)) (by rfl) wI.out wJ.out (F2.out _ gH.out) (uZ _) ?b1 ?b2 ?b3 ?_
        case b1=>(unfold maxLen;omega)
        case b2=>omega
        case b3=>exact gH.out.size
        intro v3 w3 g1 g2 g3
        have G3:=aj g1
        have wN:=aj (gH.out.grown g2 gH.out.size (fun k hk=>(G2.out.lt k hk).1))
        clear g1 g2 g3)
     | fail)
    all_goals
     have sG:=aj (Vh (L:=L) (t:=((n1,t1,x1),(n2,t2,x2),n3,t3,x3)) (i:=i) G3.out wK.out)
     go_wp2
     go_ret
     exact ⟨v3,rfl,by rw [mZ.out];exact sG.out,HB1.out.trans (wN.out.mono HB1.out.size)⟩
theorem agP {L:List TR} {i:Nat} (hi:i<L.length):Tm.eH (L.take (i+1))=Tm.put (Tm.eH (L.take i)) L[i]:=by rw [List.take_add_one,List.getElem?_eq_getElem hi];unfold Tm.eH;rw [List.foldl_append];rfl
theorem agQ (L:List TR) (hl:∀ t∈L,Tm.bf t=true) (hn:L.length≤100000) (w:World) (v:Value) (hv:b_ w v (L.map aY)) :
  Calls prog 33 #[v] w fun e w'=>∃ v',e=.returned v'∧b_ w' v' ((Tm.eH L).map aY)∧Below w.heap.size w w':=by
 obtain ⟨a,cap,rfl,hc1,hc2,hc3⟩:=hv.open;have HV:=aj hv;have HL:=aj hl;rw [List.length_map] at HV ⊢;obtain ⟨n,hn0⟩:=aC L.length;rw [←hn0] at HV hn ⊢;have HN:=aj hn0;clear hv hl hc1 hc2 hc3 hn0;go_enter func33,ntmps33;go_wp2;go_loopg [3,4] n (fun gk s3 s4 wr=>∃ (i:Nat),s4=.int .i64 i∧i≤n∧n-i≤gk∧Hid (Below w.heap.size w wr)∧Hid (b_ wr s3 ((Tm.eH (L.take i)).map aY)))
 case atStart=>exact ⟨0,rfl,Nat.zero_le _,Nat.le_refl _,Below.refl _ _,b_.nil w⟩
 case round=>
  obtain ⟨i,rfl,hin,hg,HB,HO⟩:=hrel;by_cases hlt:i<n
  · have hltz:(i:Int)<(n:Int):=ay;have dz:i<L.length:=(by rw [←HN.out];exact hlt);have HT1:=aj (HL.out L[i] (List.getElem_mem dz));have jB:=aj (HV.out.keep HB.out);obtain ⟨bl,off,rfl,hrow⟩:=jB.out.get (i:=i) (by rw [List.length_map];exact dz);have HRW:=aj (hrow i (by rw [List.length_map];exact dz));rw [List.getElem_map] at HRW;have iJ:=aj (agP dz);obtain ⟨t,ht⟩:=aC (L[i]);rw [←ht] at HT1 HRW iJ;have PT:=aj (agO (Tm.eH (L.take i)) (Tm.EI (fun s hs=>HL.out s (List.mem_of_mem_take hs))) (by have h1:=Tm.EK (L.take i);rw [List.length_take] at h1;omega) t HT1.out wr u3 HO.out);clear ht hrow;obtain ⟨⟨n1,t1,x1⟩,⟨n2,t2,x2⟩,n3,t3,x3⟩:=t;have c0:=HRW.out 0 ay;have c1:=HRW.out 1 ay;have c2:=HRW.out 2 ay;have c3:=HRW.out 3 ay;have c4:=HRW.out 4 ay;have c5:=HRW.out 5 ay;have c6:=HRW.out 6 ay;have c7:=HRW.out 7 ay;have c8:=HRW.out 8 ay;simp only [aY,dD.cells,List.getElem?_cons_zero,List.getElem?_cons_succ,Nat.add_zero] at c0 c1 c2 c3 c4 c5 c6 c7 c8;(go_wp2_with fail);refine PT.out.mono ?_;rintro e w2 ⟨v2,rfl,hv2,hlow⟩;have HB2:=aj (aI HB.out hlow);have dK:=aj hv2;clear hv2 hlow;go_wp2;go_roundg (n-(i+1))
    (case measure=>omega);case rel=>exact ⟨i+1,aN,ay,ay,HB2.out,by show b_ _ _ _;rw [iJ.out];exact dK.out⟩
  {obtain rfl:i=n:=ay;have hltz:¬ (i:Int)<(i:Int):=ay;have HE:=aj (show L.take i=L by rw [HN.out];exact List.take_length);rw [HE.out] at HO;go_wp2;go_ret;exact ⟨_,rfl,HO.out,HB.out⟩}
end Go.Proofs.YtockbaekcbeenaaGreatDoor
