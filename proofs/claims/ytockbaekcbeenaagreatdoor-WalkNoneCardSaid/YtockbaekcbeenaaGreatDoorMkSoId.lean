/-SoId-/
import Derived.Test.YtockbaekcbeenaaGreatDoorMkHd1
import Derived.Test.YtockbaekcbeenaaGreatDoorMkSoBuild
import Derived.Test.YtockbaekcbeenaaGreatDoorMkGPar
set_option linter.unusedVariables false
set_option linter.unusedSimpArgs false
set_option maxRecDepth 100000
set_option maxHeartbeats 2000000
namespace Go.Proofs.YtockbaekcbeenaaGreatDoor
open Go.Proofs.Tryz
open Go.ChangeShapes Go.WideShapes Go.ChangeAt Go.RowKit Go.Sort
def aex (w:World) (r:Nat×Nat×List TR) (e:Ending) (w':World):Prop:=
 (if r.1=0 then ∃ p,e=.returned (.tuple #[.pointer (some ⟨p,0,none⟩),.int .i64 (r.2.1:Nat),.int .i64 0])∧ji w' p (Tm.eH r.2.2)
  else e=.returned (.tuple #[.pointer none,.int .i64 (r.2.1:Nat),.int .i64 (r.1:Nat)]))∧Below w.heap.size w w'
theorem Sw (s:List UInt8) (w:World) (hV:d9 w) (hE:cu w) (hl:s.length≤20000) (R:Nat×Nat×List TR) (Ci:Tm.iW s 0 []=R)
  (ht:R.1=0→(∀ t∈R.2.2,Tm.bf t=true)∧R.2.2.length≤100):Calls prog 34 #[aA s] w (aex w R):=by
 have PA:=aj (aew s w hV hE hl R Ci);have BU:=aj (fun hz W v hv=>adu (Tm.eH R.2.2) (Tm.EI (ht hz).1) (Tm.Ju (ht hz).1) (Nat.le_trans (Tm.EK _) (ht hz).2) W v hv);obtain ⟨E,N,l⟩:=R;simp only at ht BU;clear hV hE hl Ci ht;by_cases hz:E=0
 · subst hz;replace BU:=aj (BU.out rfl);go_enter func34,ntmps34;go_wp2_with (first
    | (go_at_call 50;refine PA.out.mono ?_;rintro e w1 ⟨v,rfl,hT0,hB⟩;have hT:=(show b_ w1 v ((Tm.eH l).map aY) from hT0);clear hT0;obtain ⟨va,vc,rfl,_,_,_⟩:=hT.open;rw [List.length_map] at hT ⊢;have HT:=aj hT;have HB:=aj hB;clear hT hB)
    | (go_at_call 51;refine (BU.out _ _ HT.out).mono ?_;rintro e w2 ⟨p,rfl,hS,hB2⟩;have HS:=aj hS;have HB2:=aj hB2;clear hS hB2))
   go_ret3
   exact ⟨⟨p,rfl,HS.out⟩,aI HB.out HB2.out⟩
 · have hz2:((E:Int)==0)=false:=beq_eq_false_iff_ne.2 ay;have HZ:=aj hz;clear hz;go_enter func34,ntmps34;(go_wp2_with (go_at_call 50;refine PA.out.mono ?_;rintro e w1 ⟨v,rfl,hT,hB⟩;obtain ⟨va,vc,rfl,_,_,_⟩:=hT.open;have HB:=aj hB;clear hT hB));go_ret3
   exact ⟨by rw [if_neg HZ.out];rfl,HB.out⟩
theorem aey (p:Nat) (L:List TR) (w:World) (h:ji w p L):Calls prog 118 #[.pointer (some ⟨p,0,none⟩)] w fun e w'=>(∃ r,e=.returned (.pointer (some ⟨r,0,none⟩))∧kC w r (So.ids L))∧w'=w:=by obtain ⟨vt,ve,r,h1,h2,h3,h4⟩:=h;have c2:=h1.cell (i:=2) rfl;have H4:=aj h4;clear h1 h2 h3 h4;go_enter func118,ntmps118;go_wp2;go_ret;exact ⟨⟨r,rfl,H4.out⟩,rfl⟩
theorem aez (a:T3) (ha:So.dH a) (s:List UInt8) (w:World) :
  Calls prog 148 #[vV a,aA s] w fun e w'=>e=.returned (.int .i64 (Tm.cmp (So.sh a) s))∧Below w.heap.size w w':=by
 obtain ⟨h1,h2,h3,h4⟩:=vW ⟨a,ha⟩;have TS:=aj (fun W=>Aw (a.1:Nat) a.2.1 a.2.2 W h1 h2);have e:Tm.show (a.1:Nat) a.2.1 a.2.2=So.sh a:=Fq ⟨a,ha⟩;rw [e] at TS;have SC:=aj (fun u W=>PV u s W);obtain ⟨k,t,x⟩:=a;clear h1 h2 h3 h4 e ha;have HB0:=aj (show Below w.heap.size w (w.alloc (.cells #[.int .i64 (k:Nat),aA t,aA x] 63)) from (Below.refl _ _).alloc aG _);go_enter func148,ntmps148;go_wp2_with (first
  | (go_at_call 129;refine (TS.out _).mono ?_;rintro e w1 ⟨rfl,hB⟩;have HB1:=aj (aI HB0.out hB);clear hB)
  | (go_at_call 134;refine (SC.out _ _).mono ?_;rintro e w2 ⟨rfl,rfl⟩))
 go_ret;exact ⟨rfl,HB1.out⟩
def uP (E:List T3) (s:List UInt8):Nat:=(E.takeWhile fun a=>decide (Tm.cmp (So.sh a) s<0)).length
def yV (E:List T3) (s:List UInt8):Bool:=decide ((E[uP E s]?).map So.sh=some s)
theorem KR {E:List T3} {s:List UInt8} {i:Nat} (hi:i≤E.length) (h1:∀ j (h:j<E.length),j<i→Tm.cmp (So.sh E[j]) s<0) (h2:∀ j (h:j<E.length),i≤j→¬ Tm.cmp (So.sh E[j]) s<0):uP E s=i:=by
 unfold uP;have e:E.takeWhile (fun a=>decide (Tm.cmp (So.sh a) s<0))=E.take i:=by
  conv=>lhs;rw [←List.take_append_drop i E]
  rw [List.takeWhile_append_of_pos (fun a ha=>?_)]
  · cases hd:E.drop i with
    | nil=>simp
    | cons a r=>
     have hl:i<E.length:=by rcases Nat.lt_or_ge i E.length with h | h;{exact h};{rw [List.drop_eq_nil_of_le h] at hd;cases hd}
     have ha:E[i]=a:=(by have:=List.drop_eq_getElem_cons hl;rw [hd] at this;exact (List.cons.inj this).1.symm);have hn:=h2 i hl aG;rw [ha] at hn;simp [hn]
  {obtain ⟨j,hj,rfl⟩:=List.getElem_of_mem ha;rw [List.length_take] at hj;rw [List.getElem_take];exact decide_eq_true (h1 j ay ay)}
 rw [e,List.length_take];omega
theorem KS {E:List T3} {s:List UInt8} {i:Nat} {f:Bool} (hI:uP E s=i) (hf:f=true↔∃ h:i<E.length,So.sh E[i]=s):yV E s=f:=by unfold yV;rw [hI,Bool.eq_iff_iff,decide_eq_true_eq,hf];constructor;{intro h;rcases Nat.lt_or_ge i E.length with h3 | h3;{rw [List.getElem?_eq_getElem h3] at h;exact ⟨h3,Option.some.inj h⟩};{rw [List.getElem?_eq_none h3] at h;cases h}};{rintro ⟨h,h2⟩;rw [List.getElem?_eq_getElem h,←h2];rfl}
theorem aeA (E:List T3) (hE:∀ a∈E,So.dH a) (hs:So.fG So.cT E) (hn:E.length≤10000) (s:List UInt8) (w:World) (v:Value) (hv:bQ w v E) :
  Calls prog 147 #[v,aA s,.func (.func 148) #[] #[]] w fun e w'=>e=.returned (.tuple #[.int .i64 (uP E s:Nat),.bool (yV E s)])∧Below w.heap.size w w':=by
 have ID:=aj (fun a ha W=>aez a ha s W);obtain ⟨va,vc,rfl,hc1,hc2,hc3⟩:=hv.open;have HV:=aj hv;have HE:=aj hE;have HSL:=aj (show ∀ i j (hi:i<E.length) (hj:j<E.length),i≤j→Tm.cmp (So.sh E[i]) (So.sh E[j])≤0 from fun i j hi hj hij=>by
  rcases Nat.lt_or_ge i j with h | h;{exact Int.le_of_lt ((So.E9 So.gB hs hi hj).2 h)}
  · have:i=j:=ay;subst this;have:=So.gB.self E[i];exact Int.le_of_eq this)
 obtain ⟨n,hn0⟩:=aC E.length;have HN:=aj hn0;rw [←hn0] at HV hn hc1 ⊢;clear hv hE hs hc1 hc2 hc3 hn0;go_enter func147,ntmps147;go_wp2;go_loopg [9,10] n (fun gk s9 s10 wr=>∃ lo hi:Nat,s9=.int .i64 lo∧s10=.int .i64 hi∧lo≤hi∧hi≤n∧hi-lo≤gk∧Hid (Below w.heap.size w wr)∧Hid ((∀ j (h:j<E.length),j<lo→Tm.cmp (So.sh E[j]) s<0)∧(∀ j (h:j<E.length),hi≤j→0≤Tm.cmp (So.sh E[j]) s)))
 case atStart=>exact ⟨0,n,rfl,rfl,Nat.zero_le _,Nat.le_refl _,ay,Below.refl _ _,fun j h h1=>ay,fun j h h1=>by have:=HN.out;omega⟩
 case round=>
  obtain ⟨lo,hi,rfl,rfl,hlh,hin,hg,HB,HI⟩:=hrel;by_cases hlt:lo<hi
  · have uQ:(lo+hi) / 2<E.length:=(by rw [←HN.out];omega);obtain ⟨m,hm⟩:=aC ((lo+hi) / 2);have hmz:((lo:Int)+(hi:Int)) / 2=((m:Nat):Int):=ay;rw [←hm] at uQ;obtain ⟨b,off,rfl,hrow⟩:=(HV.out.keep HB.out).get uQ;have c0:=hrow m uQ 0 ay;have c1:=hrow m uQ 1 ay;have c2:=hrow m uQ 2 ay;obtain ⟨t,ht⟩:=aC (E[m]);rw [←ht] at c0 c1 c2;have hc:=ID.out t (by rw [ht];exact HE.out _ (List.getElem_mem _)) wr;have HM:=aj (show m=(lo+hi) / 2 from hm);have hm1:lo≤m:=ay;have hm2:m<hi:=ay;have gX:=aj (show Tm.cmp (So.sh t) s<0→∀ j (h:j<E.length),j<m+1→Tm.cmp (So.sh E[j]) s<0 from fun h0 j h hj=>by
     have h1:=HSL.out j m h uQ ay;rw [←ht] at h1;rcases Int.lt_or_eq_of_le (Tm.zQ h1 (Int.le_of_lt h0)) with h2 | h2;{exact h2}
     · exfalso;have e:=Tm.nZ.1 h2;rw [e] at h1;have:=Tm.j_ s (So.sh t);omega)
    have FZ:=aj (show ¬ Tm.cmp (So.sh t) s<0→∀ j (h:j<E.length),m≤j→0≤Tm.cmp (So.sh E[j]) s from fun h0 j h hj=>Int.not_lt.1 fun h2=>by have h1:=HSL.out m j uQ h hj;rw [←ht] at h1;have h3:=Tm.zQ h1 (Int.le_of_lt h2);have h4:Tm.cmp (So.sh t) s=0:=ay;have e:=Tm.nZ.1 h4;rw [e] at h1;have:=Tm.j_ s (So.sh E[j]);omega);obtain ⟨z,hz⟩:=aC (Tm.cmp (So.sh t) s);rw [←hz] at hc gX FZ;obtain ⟨k,tt,xx⟩:=t;simp only [bW,List.getElem?_cons_zero,List.getElem?_cons_succ,Nat.add_zero] at c0 c1 c2;clear hm ht hz hrow uQ;by_cases hz0:z<0
    · have H1:=aj (gX.out hz0);clear gX FZ;(go_wp2_with (go_at_call 148;refine hc.mono ?_;rintro e w' ⟨rfl,hb'⟩;have HB2:=aj (aI HB.out hb');clear hb'));go_roundg (hi-(m+1))
      (case measure=>omega);case rel=>exact ⟨m+1,hi,aN,rfl,ay,ay,Nat.le_refl _,HB2,H1.out,HI.out.2⟩
    · have H1:=aj (FZ.out hz0);clear gX FZ;(go_wp2_with (go_at_call 148;refine hc.mono ?_;rintro e w' ⟨rfl,hb'⟩;have HB2:=aj (aI HB.out hb');clear hb'));go_roundg (m-lo)
      (case measure=>omega);case rel=>exact ⟨lo,m,rfl,aN,ay,ay,Nat.le_refl _,HB2,HI.out.1,H1.out⟩
  · obtain rfl:lo=hi:=ay;by_cases hl:lo<n
    · have yX:lo<E.length:=(by rw [←HN.out];exact hl);have hlz:(lo:Int)<(n:Int):=ay;obtain ⟨b,off,rfl,hrow⟩:=(HV.out.keep HB.out).get yX;have c0:=hrow lo yX 0 ay;have c1:=hrow lo yX 1 ay;have c2:=hrow lo yX 2 ay;obtain ⟨t,ht⟩:=aC (E[lo]);rw [←ht] at c0 c1 c2;have hc:=ID.out t (by rw [ht];exact HE.out _ (List.getElem_mem _)) wr;obtain ⟨z,hz⟩:=aC (Tm.cmp (So.sh t) s);rw [←hz] at hc;have HF:=aj (show (z==0)=true↔∃ h:lo<E.length,So.sh E[lo]=s by rw [beq_iff_eq,hz,Tm.nZ,ht];exact ⟨fun h=>⟨yX,h⟩,fun ⟨_,h⟩=>h⟩);obtain ⟨k,tt,xx⟩:=t;simp only [bW,List.getElem?_cons_zero,List.getElem?_cons_succ,Nat.add_zero] at c0 c1 c2;clear ht hz hrow yX;obtain ⟨f,hf⟩:=aC ((z==0));rw [←hf] at HF;have KT:=aj hf;clear hf;(go_wp2_with (go_at_call 148;refine hc.mono ?_;rintro e w' ⟨rfl,hb'⟩;have HB2:=aj (aI HB.out hb');clear hb'));go_ret2
      have eI:=KR (by rw [←HN.out];exact hin) HI.out.1 (fun j h hj=>Int.not_lt.2 (HI.out.2 j h hj));have eF:=KS eI HF.out;exact ⟨by rw [eI,eF,KT.out];rfl,HB2.out⟩
    · have hlz:¬ (lo:Int)<(n:Int):=ay;go_wp2;go_ret2
      have eI:=KR (by rw [←HN.out];exact hin) HI.out.1 (fun j h hj=>Int.not_lt.2 (HI.out.2 j h hj));have eF:=KS (f:=false) eI (by
       constructor;{intro h;cases h}
       · rintro ⟨h,_⟩;rw [←HN.out] at h;exact absurd h hl)
      exact ⟨by rw [eI,eF];rfl,HB.out⟩
theorem Sy (a:T3) (k:Int) (t x:List UInt8) (w:World):(binOp .neq 63 (.agg #[.int .i64 (a.1:Nat),aA a.2.1,aA a.2.2]) (.agg #[.int .i64 k,aA t,aA x])).run prog w=.ok (.bool (!decide ((a.1:Int)=k∧a.2.1=t∧a.2.2=x))) w:=by
 obtain ⟨m,u,y⟩:=a;by_cases h1:(m:Int)=k <;> by_cases h2:u=t <;> by_cases h3:y=x;all_goals
  simp [go_sem,h1,h2,h3] <;> omega
def mY (E:List T3) (k:Int) (t x:List UInt8):Nat:=if 0≤k then So.num E (k.toNat,t,x) else 0
theorem Sz (E:List T3) (n:Nat) (t x:List UInt8):mY E (n:Int) t x=So.num E (n,t,x):=by unfold mY;rw [if_pos ay,Int.toNat_natCast]
theorem aeB {E:List T3} (hE:∀ a∈E,So.dH a) (hs:So.fG So.cT E) (k:Int) (t x:List UInt8) {j:Nat} (hj:j<E.length) (he:(E[j].1:Int)=k∧E[j].2.1=t∧E[j].2.2=x) :
  uP E (Tm.show k t x)=j∧yV E (Tm.show k t x)=true∧mY E k t x=j+1:=by
 obtain ⟨e1,e2,e3⟩:=he;have hv:=Fq ⟨E[j],hE _ (List.getElem_mem hj)⟩;have hsh:Tm.show k t x=So.sh E[j]:=by rw [←hv,←e1,←e2,←e3]
 have eI:uP E (Tm.show k t x)=j:=by refine KR ay (fun i hi hij=>?_) (fun i hi hij=>?_);{rw [hsh];exact (So.E9 So.gB hs hi hj).2 hij};{rw [hsh];intro h;have:=(So.E9 So.gB hs hi hj).1 h;omega}
 refine ⟨eI,KS eI ⟨fun _=>⟨hj,hsh.symm⟩,fun _=>rfl⟩,?_⟩;rw [←e1,Sz,←e2,←e3];exact So.JO (So.JN So.gB hs) hj
theorem aeC {E:List T3} {k:Int} {t x:List UInt8} (h:∀ j (hj:j<E.length),¬ ((E[j].1:Int)=k∧E[j].2.1=t∧E[j].2.2=x)):mY E k t x=0:=by unfold mY;split;{refine So.A_ fun hm=>?_;obtain ⟨j,hj,e⟩:=List.getElem_of_mem hm;exact h j hj (by rw [e];exact ⟨by show ((k.toNat:Nat):Int)=k;omega,rfl,rfl⟩)};{rfl}
theorem aeD (p:Nat) (L:List TR) (hl:∀ t∈L,Tm.bf t=true) (hn:L.length≤1000) (k:Int) (t x:List UInt8) (w:World) (h:ji w p L) (ht:t.length≤1000000000) (hx:x.length≤1000000000) :
  Calls prog 117 #[.pointer (some ⟨p,0,none⟩),dV k t x] w fun e w'=>e=.returned (.int .i64 (mY (So.terms L) k t x:Nat))∧Below w.heap.size w w':=by
 obtain ⟨vt,ve,r,h1,h2,h3,h4⟩:=h;have HE:=aj (So.Q5 hl);have HS:=aj (So.Fg hl);have hlen:=So.Fj L;obtain ⟨E,hE⟩:=aC (So.terms L);rw [←hE] at h3 HE HS hlen ⊢;clear hE;obtain ⟨a,cap,rfl,hc1,hc2,hc3⟩:=h3.open;have TS:=aj (fun W=>Aw k t x W ht hx);have BS:=aj (fun (s:List UInt8) (W:World) (hv:bQ W (.slice a E.length cap) E)=>aeA E HE.out HS.out ay s W _ hv);have HP:=aj h1;have HT:=aj h3;obtain ⟨s,hs⟩:=aC (Tm.show k t x);have Kk:=aj hs;rw [←hs] at TS;obtain ⟨n,hn0⟩:=aC E.length;rw [←hn0] at BS HT HP;have HN:=aj hn0;clear h1 h2 h3 h4 hc1 hc2 hc3 hs hn0;go_enter func117,ntmps117;go_upto_region 3 with fail
 obtain ⟨w2,hw2,k0,k1,k2,HB⟩:=I8 w (.int .i64 k) (aA t) (aA x) 63;rw [←hw2];have lS:=aj (show aB w2 p [vt,.slice a n cap,.pointer (some ⟨r,0,none⟩)] 154 by rw [hw2];exact HP.out.alloc _);have HT2:=aj (show bQ w2 (.slice a n cap) E from HT.out.keep HB.out);clear hw2;have p1:=fun q:Later w2.heap.size w2=>q.keep (lS.out.cell (i:=1) rfl);refine dP w2.heap.size aF aF ?_;repeat (go_big_quiet_step (first
  | (go_at_call 129;with_reducible exact Later.call aG (TS.out _))
  | (go_at_call 147;with_reducible exact Later.call aG (BS.out s _ (HT2.out.keep (Later.low _))))))
 refine wpQuiet_nil ?_;rintro _ ⟨q,rfl⟩;have HQ:=aj (aI HB.out q.low);have KU:=aj (HT2.out.keep q.low);have P1:=aj (p1 q);have K0:=aj (k0 q);have K1:=aj (k1 q);have K2:=aj (k2 q);generalize q.it=w5 at HQ KU P1 K0 K1 K2 ⊢;clear k0 k1 k2 p1;by_cases hf:∃ j,∃ hj:j<E.length,(E[j].1:Int)=k∧E[j].2.1=t∧E[j].2.2=x
 · obtain ⟨j,hj,he⟩:=hf;obtain ⟨eI,eF,eO⟩:=aeB HE.out HS.out k t x hj he;rw [←Kk.out] at eI eF;rw [eI,eF];have HO:=aj eO;obtain ⟨b,off,rfl,hrow⟩:=KU.out.get hj;have c0:=hrow j hj 0 ay;have c1:=hrow j hj 1 ay;have c2:=hrow j hj 2 ay;obtain ⟨u,hu⟩:=aC (E[j]);rw [←hu] at c0 c1 c2 he;have NE:=Sy u k t x;rw [decide_eq_true he] at NE;have hjn:j<n:=(by rw [HN.out];exact hj);have hjz:(j:Int)<(n:Int):=ay;have RJ:(j:Int)<1000000:=ay;obtain ⟨m,u1,u2⟩:=u;simp only [bW,List.getElem?_cons_zero,List.getElem?_cons_succ,Nat.add_zero] at c0 c1 c2;have p1:=P1.out;have k0:=K0.out;have k1:=K1.out;have k2:=K2.out;clear hrow hu he eI eF eO hj;go_wp2;go_region
   go_wp2;go_ret;exact ⟨by rw [HO.out];rfl,HQ.out.drew⟩
 · have HO:=aj (show mY E k t x=0 from aeC fun j hj he=>hf ⟨j,hj,he⟩);cases hF:yV E s with
   | false=>
    clear hf hF;have p1:=P1.out;have k0:=K0.out;have k1:=K1.out;have k2:=K2.out;go_wp2;go_region
    go_wp2;go_ret;exact ⟨by rw [HO.out];rfl,HQ.out.drew⟩
   | true=>
    have hF2:=hF;unfold yV at hF2;rw [decide_eq_true_eq] at hF2;obtain ⟨j,hj0⟩:=aC (uP E s);rw [←hj0] at hF2 ⊢;have hj:j<E.length:=by rcases Nat.lt_or_ge j E.length with h | h;{exact h};{rw [List.getElem?_eq_none h] at hF2;cases hF2}
    have hne:¬ ((E[j].1:Int)=k∧E[j].2.1=t∧E[j].2.2=x):=fun he=>hf ⟨j,hj,he⟩;obtain ⟨b,off,rfl,hrow⟩:=KU.out.get hj;have c0:=hrow j hj 0 ay;have c1:=hrow j hj 1 ay;have c2:=hrow j hj 2 ay;obtain ⟨u,hu⟩:=aC (E[j]);rw [←hu] at c0 c1 c2 hne;have NE:=Sy u k t x;rw [decide_eq_false hne] at NE;have hjn:j<n:=(by rw [HN.out];exact hj);have hjz:(j:Int)<(n:Int):=ay;obtain ⟨m,u1,u2⟩:=u;simp only [bW,List.getElem?_cons_zero,List.getElem?_cons_succ,Nat.add_zero] at c0 c1 c2;have p1:=P1.out;have k0:=K0.out;have k1:=K1.out;have k2:=K2.out;clear hrow hu hne hj hj0 hF hF2 hf;go_wp2;go_region
    go_wp2;go_ret;exact ⟨by rw [HO.out];rfl,HQ.out.drew⟩
end Go.Proofs.YtockbaekcbeenaaGreatDoor
