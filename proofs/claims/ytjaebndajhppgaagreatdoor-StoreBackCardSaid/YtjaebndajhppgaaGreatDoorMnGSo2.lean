/-GSo2-/
import Derived.Test.YtjaebndajhppgaaGreatDoorMnGTri
import Derived.Test.YtjaebndajhppgaaGreatDoorMnSoClone
import Derived.Test.YtjaebndajhppgaaGreatDoorMnGPut
set_option linter.unusedVariables false
set_option linter.unusedSimpArgs false
set_option maxRecDepth 100000
set_option maxHeartbeats 2000000
namespace Go.Proofs.YtjaebndajhppgaaGreatDoor.Tm
theorem acz {t:TT} (h:aN t=true):(dR t).length≤800:=by obtain ⟨_,_,a1,a2,a3⟩:=mR h;have b1:=(fq a1).1;have b2:=(fq a2).1;have b3:=(fq a3).1;unfold dR;simp only [List.length_append,List.length_cons,List.length_nil];omega
theorem Pb:∀ {L:List TT},(∀ t∈L,aN t=true)→(dY L).length≤801*L.length
 | [],_=>by simp [dY]
 | t::L,h=>by
  have h1:=acz (h t (by simp))
  have h2:=Pb (L:=L) (fun s hs=>h s (by simp [hs]))
  rw [Kw]
  simp only [List.length_append,List.length_cons]
  omega
end Go.Proofs.YtjaebndajhppgaaGreatDoor.Tm
namespace Go.Proofs.YtjaebndajhppgaaGreatDoor
open Go.ChangeShapes Go.WideShapes Go.ChangeAt Go.RowKit
theorem Pf {L:List T3} {t:T3} {i:Nat} (hi:i≤L.length) (hlo:∀ j (h:j<L.length),j<i→So.cT L[j] t<0) (hhi:∀ h:i<L.length,¬ So.cT L[i] t<0) :
  (L.takeWhile fun a=>decide (So.cT a t<0))=L.take i∧(L.dropWhile fun a=>decide (So.cT a t<0))=L.drop i:=by
 have h1:∀ d∈L.take i,decide (So.cT d t<0)=true:=fun d hd=>by obtain ⟨j,hj,rfl⟩:=List.getElem_of_mem hd;rw [List.length_take] at hj;rw [List.getElem_take];exact decide_eq_true (hlo j (by omega) (by omega))
 have e:=List.take_append_drop i L;rcases Nat.lt_or_ge i L.length with h | h;{have hd:L.drop i=L[i]::L.drop (i+1):=List.drop_eq_getElem_cons h;have h2:=Gm (p:=fun a=>decide (So.cT a t<0)) (l:=L.take i) L[i] (L.drop (i+1)) h1 (decide_eq_false (hhi h));rw [←hd,e] at h2;exact h2};{have hd:L.drop i=[]:=List.drop_eq_nil_of_le h;have ht:L.take i=L:=List.take_of_length_le h;rw [ht] at h1;rw [hd,ht];exact Gn (p:=fun a=>decide (So.cT a t<0)) h1}
theorem acA {L:List T3} {t:T3} {i:Nat} (hi:i<L.length) (hlo:∀ j (h:j<L.length),j<i→So.cT L[j] t<0) (h0:L[i]=t):So.put So.cT L t=L:=by obtain ⟨_,h2⟩:=Pf (Nat.le_of_lt hi) hlo (fun _=>by rw [h0];have:=So.eD.self t;omega);unfold So.put;rw [h2,List.drop_eq_getElem_cons hi,if_pos (by rw [h0];rfl)]
theorem Pg {L:List T3} {t:T3} {i:Nat} (hi:i≤L.length) (hlo:∀ j (h:j<L.length),j<i→So.cT L[j] t<0) (hhi:∀ h:i<L.length,¬ So.cT L[i] t<0∧L[i]≠t):So.put So.cT L t=L.take i++t::L.drop i:=by obtain ⟨h1,h2⟩:=Pf hi hlo (fun h=>(hhi h).1);unfold So.put;rw [h1,h2,if_neg];intro h;rcases Nat.lt_or_ge i L.length with h3 | h3;{rw [List.drop_eq_getElem_cons h3,List.head?_cons] at h;exact (hhi h3).2 (Option.some.inj h)};{rw [List.drop_eq_nil_of_le h3] at h;exact absurd h (by simp)}
theorem bC.front {W:World} {a:Option Addr} {n cap:Nat} {L:List T3} (h:bC W (.slice a n cap) L) (k:Nat) (hk:k≤n):bC W (.slice a k cap) (L.take k):=by
 obtain ⟨a',cap',e,h1,h2,h3,h4⟩:=h;simp only [Value.slice.injEq] at e;obtain ⟨rfl,rfl,rfl⟩:=e;have hl:(L.take k).length=k:=by rw [List.length_take];omega
 refine ⟨a,cap,by rw [hl],by omega,h2,h3,?_⟩;rcases h4 with h4 | ⟨b,off,e,h4⟩;{exact .inl (by omega)};{exact .inr ⟨b,off,e,fun i hi c hc=>by rw [List.getElem_take];exact h4 i (by omega) c hc⟩}
theorem bC.back {W:World} {b off n cap:Nat} {L:List T3} (h:bC W (.slice (some ⟨b,off,none⟩) n cap) L) (k:Nat) (hk:k≤n):bC W (.slice (some ⟨b,off+k*3,none⟩) (n-k) (cap-k)) (L.drop k):=by obtain ⟨a',cap',e,h1,h2,h3,h4⟩:=h;simp only [Value.slice.injEq] at e;obtain ⟨rfl,rfl,rfl⟩:=e;have hl:(L.drop k).length=L.length-k:=List.length_drop ..;refine ⟨_,cap-k,by rw [hl],by omega,by omega,(fun h=>by cases h),?_⟩;rcases h4 with h4 | ⟨b',off',e,h4⟩;{exact .inl (by omega)};{cases e;exact .inr ⟨b,off+k*3,rfl,fun i hi c hc=>by rw [List.getElem_drop,←h4 (k+i) (by omega) c hc];congr 2;omega⟩}
theorem lQ {W:World} {a:Option Addr} {m c:Nat} {l:List T3} (h:bC W (.slice a m c) l):m=l.length∧(a=none→m=0∧c=0)∧∀ ad,a=some ad→∀ j u,(bS l)[j]?=some u→W.cell? (ad.add j)=some u:=by
 obtain ⟨a',c',e,h1,h2,h3,h4⟩:=h;simp only [Value.slice.injEq] at e;obtain ⟨rfl,rfl,rfl⟩:=e;refine ⟨rfl,fun h=>⟨by have:=h3 h;omega,h3 h⟩,fun ad had j u hu=>?_⟩;have hj:j<l.length*3:=by have:=(List.getElem?_eq_some_iff.1 hu).1;rwa [qb] at this
 rcases h4 with h4 | ⟨b,off,hb,hc⟩;{omega};{rw [hb] at had;cases had;rw [iF rfl];exact OT hc j u hu}
theorem acB (p q:T3) (hp:So.bX p) (hq:So.bX q) (W:World):Calls Tryz.prog 31 #[nZ p,nZ q] W fun e w'=>e=.returned (.int .i64 (So.cT p q))∧Below W.heap.size W w':=by obtain ⟨a1,a2,a3,a4⟩:=n_ ⟨p,hp⟩;obtain ⟨b1,b2,b3,b4⟩:=n_ ⟨q,hq⟩;exact Bp p.1 q.1 p.2.1 p.2.2 q.2.1 q.2.2 W ⟨a3,a4⟩ ⟨b3,b4⟩ a1 a2 b1 b2
theorem acC {E:List T3} {t:T3} (h:∀ j (hj:j<E.length),E[j]≠t):So.num E t=0:=So.wT fun hm=>by obtain ⟨j,hj,e⟩:=List.getElem_of_mem hm;exact h j hj e
theorem Gw (p:Nat) (E:List T3) (hnd:E.Nodup) (hn:E.length≤100000) (t:T3) (w:World) (ve:Value) (h1:w.cell? ⟨p,1,none⟩=some ve) (hE:bC w ve E) :
  Calls Tryz.prog 65 #[.pointer (some ⟨p,0,none⟩),nZ t] w fun e w'=>e=.returned (.int .i64 (So.num E t:Nat))∧Below w.heap.size w w':=by
 obtain ⟨a,cap,rfl,hc1,hc2,hc3⟩:=hE.open;have HT:=hid hE;have nW:=hid hnd;obtain ⟨n,hn0⟩:∃ n,n=E.length:=⟨_,rfl⟩;rw [←hn0] at HT h1 hn;have HN:=hid hn0;have HP:=hid h1;clear hE hnd hc1 hc2 hc3 hn0 h1;go_enter Tryz.func65,Tryz.ntmps65;go_upto_region 1 with fail
 obtain ⟨k,tt,xx⟩:=t;obtain ⟨w0,hw0⟩:∃ w0,w0=w.alloc (.cells #[.int .i64 (k:Nat),str tt,str xx] 61):=⟨_,rfl⟩;have HB0:=hid (show Below w.heap.size w w0 by rw [hw0];exact (Below.refl _ _).alloc (Nat.le_refl _) _);have HX0:=hid (show aj w0 w.heap.size [.int .i64 (k:Nat),str tt,str xx] 61 by rw [hw0];exact aj.new' rfl rfl);show Code.wp _ _ _ _ (w.alloc (.cells #[.int .i64 (k:Nat),str tt,str xx] 61));rw [←hw0];clear hw0;have Br:=hid (ak HB0.out HP.out);have HT0:=hid (HT.out.keep HB0.out);have p1:=Br.out;have x0:=HX0.out.cell (i:=0) rfl;have x1:=HX0.out.cell (i:=1) rfl;have x2:=HX0.out.cell (i:=2) rfl;go_wp2;go_loopg [5] n (fun gk s5 wr=>∃ i q:Nat,s5=.int .i64 i∧i≤n∧n-i≤gk∧wr=w0.drewN q∧Hid (∀ j (hj:j<E.length),j<i→E[j]≠(k,tt,xx)))
 case atStart=>exact ⟨0,0,by go_num,Nat.zero_le _,Nat.le_refl _,rfl,hid (fun j hj h=>absurd h (Nat.not_lt_zero _))⟩
 case round=>
  obtain ⟨i,q,rfl,hin,hg,rfl,fD⟩:=hrel;by_cases hlt:i<n
  · have hltz:(i:Int)<(n:Int):=(by omega);have dL:i<E.length:=(by rw [←HN.out];exact hlt);obtain ⟨b,off,hab,hrow⟩:=HT0.out.get dL;subst hab;have c0:=hrow i dL 0 (by omega);have c1:=hrow i dL 1 (by omega);have c2:=hrow i dL 2 (by omega);obtain ⟨u,hu⟩:∃ u,u=E[i]:=⟨_,rfl⟩;rw [←hu] at c0 c1 c2;have HU:=hid hu;have E0:=Fa u (k,tt,xx);have oz:=hid (So.EL nW.out dL);rw [←hu] at oz;obtain ⟨m,u1,u2⟩:=u;simp only [bG,List.getElem?_cons_zero,List.getElem?_cons_succ,Nat.add_zero] at c0 c1 c2 E0;clear hu hrow;by_cases he:((m,u1,u2):T3)=(k,tt,xx)
    · have E4:=fun W=>(E0 W).trans (by rw [decide_eq_true he]);rw [he] at oz;clear E0 he;go_wp2;go_region
      go_wp2;go_ret;exact ⟨by rw [oz.out];rfl,aX HB0.out (q+1)⟩
    · have E4:=fun W=>(E0 W).trans (by rw [decide_eq_false he]);have HE:=hid he;clear E0 he oz;go_wp2;go_region
      go_wp2;go_roundg (n-(i+1))
      (case measure=>omega);case rel=>exact ⟨i+1,q+1,by go_num,by omega,by omega,rfl,fun j hj h=>by
       rcases Nat.lt_or_ge j i with h2 | h2;{exact fD.out j hj h2}
       · obtain rfl:j=i:=(by omega);rw [←HU.out];exact HE.out⟩
  {obtain rfl:i=n:=(by omega);have hltz:¬ (i:Int)<(i:Int):=(by omega);have oz:=hid (show So.num E (k,tt,xx)=0 from acC fun j hj=>fD.out j hj (by rw [HN.out];exact hj));go_wp2;go_ret;exact ⟨by rw [oz.out];rfl,aX HB0.out q⟩}
end Go.Proofs.YtjaebndajhppgaaGreatDoor
