/-GRg7-/
import Derived.Test.YtjaebndajhppgaaGreatDoorMnSoClone
import Derived.Test.YtjaebndajhppgaaGreatDoorMnGRg6
import Derived.Test.YtjaebndajhppgaaGreatDoorMnGRg5
import Derived.Test.YtjaebndajhppgaaGreatDoorMnGB
import Derived.Deep.SlicePairs
set_option linter.unusedVariables false
set_option linter.unusedSimpArgs false
set_option maxRecDepth 100000
set_option maxHeartbeats 2000000
namespace Go.Proofs.YtjaebndajhppgaaGreatDoor
open Go.ChangeShapes Go.WideShapes Go.ChangeAt Go.RowKit Go.Sort
theorem ad_ (a:T3) (ha:So.bX a) (s:List UInt8) (w:World) :
  Calls Tryz.prog 74 #[nZ a,str s] w fun e w'=>e=.returned (.int .i64 (Tm.cmp (So.sh a) s))∧Below w.heap.size w w':=by
 obtain ⟨h1,h2,h3,h4⟩:=n_ ⟨a,ha⟩;have TS:=hid (fun W=>vN (a.1:Nat) a.2.1 a.2.2 W h1 h2);have e:Tm.show (a.1:Nat) a.2.1 a.2.2=So.sh a:=wX ⟨a,ha⟩;rw [e] at TS;have SC:=hid (fun u W=>JU u s W);obtain ⟨k,t,x⟩:=a;clear h1 h2 h3 h4 e ha;have HB0:=hid (show Below w.heap.size w (w.alloc (.cells #[.int .i64 (k:Nat),str t,str x] 61)) from (Below.refl _ _).alloc (Nat.le_refl _) _);go_enter Tryz.func74,Tryz.ntmps74;go_wp2_with (first
  | (go_at_call 57;refine (TS.out _).mono ?_;rintro e w1 ⟨rfl,hB⟩;have HB1:=hid (aA HB0.out hB);clear hB)
  | (go_at_call 75;refine (SC.out _ _).mono ?_;rintro e w2 ⟨rfl,rfl⟩))
 go_ret;exact ⟨rfl,HB1.out⟩
def qF (E:List T3) (s:List UInt8):Nat:=(E.takeWhile fun a=>decide (Tm.cmp (So.sh a) s<0)).length
def u7 (E:List T3) (s:List UInt8):Bool:=decide ((E[qF E s]?).map So.sh=some s)
theorem Il {E:List T3} {s:List UInt8} {i:Nat} (hi:i≤E.length) (h1:∀ j (h:j<E.length),j<i→Tm.cmp (So.sh E[j]) s<0) (h2:∀ j (h:j<E.length),i≤j→¬ Tm.cmp (So.sh E[j]) s<0):qF E s=i:=by
 unfold qF;have e:E.takeWhile (fun a=>decide (Tm.cmp (So.sh a) s<0))=E.take i:=by
  conv=>lhs;rw [←List.take_append_drop i E]
  rw [List.takeWhile_append_of_pos (fun a ha=>?_)]
  · cases hd:E.drop i with
    | nil=>simp
    | cons a r=>
     have hl:i<E.length:=by rcases Nat.lt_or_ge i E.length with h | h;{exact h};{rw [List.drop_eq_nil_of_le h] at hd;cases hd}
     have ha:E[i]=a:=(by have:=List.drop_eq_getElem_cons hl;rw [hd] at this;exact (List.cons.inj this).1.symm);have hn:=h2 i hl (Nat.le_refl _);rw [ha] at hn;simp [hn]
  {obtain ⟨j,hj,rfl⟩:=List.getElem_of_mem ha;rw [List.length_take] at hj;rw [List.getElem_take];exact decide_eq_true (h1 j (by omega) (by omega))}
 rw [e,List.length_take];omega
theorem Im {E:List T3} {s:List UInt8} {i:Nat} {f:Bool} (hI:qF E s=i) (hf:f=true↔∃ h:i<E.length,So.sh E[i]=s):u7 E s=f:=by unfold u7;rw [hI,Bool.eq_iff_iff,decide_eq_true_eq,hf];constructor;{intro h;rcases Nat.lt_or_ge i E.length with h3 | h3;{rw [List.getElem?_eq_getElem h3] at h;exact ⟨h3,Option.some.inj h⟩};{rw [List.getElem?_eq_none h3] at h;cases h}};{rintro ⟨h,h2⟩;rw [List.getElem?_eq_getElem h,←h2];rfl}
theorem aea (E:List T3) (hE:∀ a∈E,So.bX a) (hs:So.dH So.cT E) (hn:E.length≤10000) (s:List UInt8) (w:World) (v:Value) (hv:bC w v E) :
  Calls Tryz.prog 73 #[v,str s,.func (.func 74) #[] #[]] w fun e w'=>e=.returned (.tuple #[.int .i64 (qF E s:Nat),.bool (u7 E s)])∧Below w.heap.size w w':=by
 have ID:=hid (fun a ha W=>ad_ a ha s W);obtain ⟨va,vc,rfl,hc1,hc2,hc3⟩:=hv.open;have HV:=hid hv;have HE:=hid hE;have HSL:=hid (show ∀ i j (hi:i<E.length) (hj:j<E.length),i≤j→Tm.cmp (So.sh E[i]) (So.sh E[j])≤0 from fun i j hi hj hij=>by
  rcases Nat.lt_or_ge i j with h | h;{exact Int.le_of_lt ((So.Aq So.eD hs hi hj).2 h)}
  · have:i=j:=(by omega);subst this;have:=So.eD.self E[i];exact Int.le_of_eq this)
 obtain ⟨n,hn0⟩:∃ n,n=E.length:=⟨_,rfl⟩;have HN:=hid hn0;rw [←hn0] at HV hn hc1 ⊢;clear hv hE hs hc1 hc2 hc3 hn0;go_enter Tryz.func73,Tryz.ntmps73;go_wp2;go_loopg [9,10] n (fun gk s9 s10 wr=>∃ lo hi:Nat,s9=.int .i64 lo∧s10=.int .i64 hi∧lo≤hi∧hi≤n∧hi-lo≤gk∧Hid (Below w.heap.size w wr)∧Hid ((∀ j (h:j<E.length),j<lo→Tm.cmp (So.sh E[j]) s<0)∧(∀ j (h:j<E.length),hi≤j→0≤Tm.cmp (So.sh E[j]) s)))
 case atStart=>exact ⟨0,n,rfl,rfl,Nat.zero_le _,Nat.le_refl _,by omega,Below.refl _ _,fun j h h1=>by omega,fun j h h1=>by have:=HN.out;omega⟩
 case round=>
  obtain ⟨lo,hi,rfl,rfl,hlh,hin,hg,HB,HI⟩:=hrel;by_cases hlt:lo<hi
  · have qG:(lo+hi) / 2<E.length:=(by rw [←HN.out];omega);obtain ⟨m,hm⟩:∃ m,m=(lo+hi) / 2:=⟨_,rfl⟩;have hmz:((lo:Int)+(hi:Int)) / 2=((m:Nat):Int):=(by omega);rw [←hm] at qG;obtain ⟨b,off,rfl,hrow⟩:=(HV.out.keep HB.out).get qG;have c0:=hrow m qG 0 (by omega);have c1:=hrow m qG 1 (by omega);have c2:=hrow m qG 2 (by omega);obtain ⟨t,ht⟩:∃ t,t=E[m]:=⟨_,rfl⟩;rw [←ht] at c0 c1 c2;have hc:=ID.out t (by rw [ht];exact HE.out _ (List.getElem_mem _)) wr;have HM:=hid (show m=(lo+hi) / 2 from hm);have hm1:lo≤m:=(by omega);have hm2:m<hi:=(by omega);have fD:=hid (show Tm.cmp (So.sh t) s<0→∀ j (h:j<E.length),j<m+1→Tm.cmp (So.sh E[j]) s<0 from fun h0 j h hj=>by
     have h1:=HSL.out j m h qG (by omega);rw [←ht] at h1;rcases Int.lt_or_eq_of_le (Tm.vG h1 (Int.le_of_lt h0)) with h2 | h2;{exact h2}
     · exfalso;have e:=Tm.kV.1 h2;rw [e] at h1;have:=Tm.iT s (So.sh t);omega)
    have Ce:=hid (show ¬ Tm.cmp (So.sh t) s<0→∀ j (h:j<E.length),m≤j→0≤Tm.cmp (So.sh E[j]) s from fun h0 j h hj=>Int.not_lt.1 fun h2=>by have h1:=HSL.out m j qG h hj;rw [←ht] at h1;have h3:=Tm.vG h1 (Int.le_of_lt h2);have h4:Tm.cmp (So.sh t) s=0:=(by omega);have e:=Tm.kV.1 h4;rw [e] at h1;have:=Tm.iT s (So.sh E[j]);omega);obtain ⟨z,hz⟩:∃ z,z=Tm.cmp (So.sh t) s:=⟨_,rfl⟩;rw [←hz] at hc fD Ce;obtain ⟨k,tt,xx⟩:=t;simp only [bG,List.getElem?_cons_zero,List.getElem?_cons_succ,Nat.add_zero] at c0 c1 c2;clear hm ht hz hrow qG;by_cases hz0:z<0
    · have H1:=hid (fD.out hz0);clear fD Ce;(go_wp2_with (go_at_call 74;refine hc.mono ?_;rintro e w' ⟨rfl,hb'⟩;have HB2:=hid (aA HB.out hb');clear hb'));go_roundg (hi-(m+1))
      (case measure=>omega);case rel=>exact ⟨m+1,hi,by go_num,rfl,by omega,by omega,Nat.le_refl _,HB2,H1.out,HI.out.2⟩
    · have H1:=hid (Ce.out hz0);clear fD Ce;(go_wp2_with (go_at_call 74;refine hc.mono ?_;rintro e w' ⟨rfl,hb'⟩;have HB2:=hid (aA HB.out hb');clear hb'));go_roundg (m-lo)
      (case measure=>omega);case rel=>exact ⟨lo,m,rfl,by go_num,by omega,by omega,Nat.le_refl _,HB2,HI.out.1,H1.out⟩
  · obtain rfl:lo=hi:=(by omega);by_cases hl:lo<n
    · have u_:lo<E.length:=(by rw [←HN.out];exact hl);have hlz:(lo:Int)<(n:Int):=(by omega);obtain ⟨b,off,rfl,hrow⟩:=(HV.out.keep HB.out).get u_;have c0:=hrow lo u_ 0 (by omega);have c1:=hrow lo u_ 1 (by omega);have c2:=hrow lo u_ 2 (by omega);obtain ⟨t,ht⟩:∃ t,t=E[lo]:=⟨_,rfl⟩;rw [←ht] at c0 c1 c2;have hc:=ID.out t (by rw [ht];exact HE.out _ (List.getElem_mem _)) wr;obtain ⟨z,hz⟩:∃ z,z=Tm.cmp (So.sh t) s:=⟨_,rfl⟩;rw [←hz] at hc;have HF:=hid (show (z==0)=true↔∃ h:lo<E.length,So.sh E[lo]=s by rw [beq_iff_eq,hz,Tm.kV,ht];exact ⟨fun h=>⟨u_,h⟩,fun ⟨_,h⟩=>h⟩);obtain ⟨k,tt,xx⟩:=t;simp only [bG,List.getElem?_cons_zero,List.getElem?_cons_succ,Nat.add_zero] at c0 c1 c2;clear ht hz hrow u_;obtain ⟨f,hf⟩:∃ f,f=(z==0):=⟨_,rfl⟩;rw [←hf] at HF;have HFZ:=hid hf;clear hf;(go_wp2_with (go_at_call 74;refine hc.mono ?_;rintro e w' ⟨rfl,hb'⟩;have HB2:=hid (aA HB.out hb');clear hb'));go_ret2
      have eI:=Il (by rw [←HN.out];exact hin) HI.out.1 (fun j h hj=>Int.not_lt.2 (HI.out.2 j h hj));have eF:=Im eI HF.out;exact ⟨by rw [eI,eF,HFZ.out];rfl,HB2.out⟩
    · have hlz:¬ (lo:Int)<(n:Int):=(by omega);go_wp2;go_ret2
      have eI:=Il (by rw [←HN.out];exact hin) HI.out.1 (fun j h hj=>Int.not_lt.2 (HI.out.2 j h hj));have eF:=Im (f:=false) eI (by
       constructor;{intro h;cases h}
       · rintro ⟨h,_⟩;rw [←HN.out] at h;exact absurd h hl)
      exact ⟨by rw [eI,eF];rfl,HB.out⟩
theorem Io (a:T3) (k:Int) (t x:List UInt8) (w:World):(binOp .neq 61 (.agg #[.int .i64 (a.1:Nat),str a.2.1,str a.2.2]) (.agg #[.int .i64 k,str t,str x])).run Tryz.prog w=.ok (.bool (!decide ((a.1:Int)=k∧a.2.1=t∧a.2.2=x))) w:=by
 obtain ⟨m,u,y⟩:=a;by_cases h1:(m:Int)=k <;> by_cases h2:u=t <;> by_cases h3:y=x;all_goals
  simp [go_sem,h1,h2,h3] <;> omega
def sG (E:List T3) (k:Int) (t x:List UInt8):Nat:=if 0≤k then So.num E (k.toNat,t,x) else 0
theorem aeb (E:List T3) (n:Nat) (t x:List UInt8):sG E (n:Int) t x=So.num E (n,t,x):=by unfold sG;rw [if_pos (by omega),Int.toNat_natCast]
theorem QV {E:List T3} (hE:∀ a∈E,So.bX a) (hs:So.dH So.cT E) (k:Int) (t x:List UInt8) {j:Nat} (hj:j<E.length) (he:(E[j].1:Int)=k∧E[j].2.1=t∧E[j].2.2=x) :
  qF E (Tm.show k t x)=j∧u7 E (Tm.show k t x)=true∧sG E k t x=j+1:=by
 obtain ⟨e1,e2,e3⟩:=he;have hv:=wX ⟨E[j],hE _ (List.getElem_mem hj)⟩;have hsh:Tm.show k t x=So.sh E[j]:=by rw [←hv,←e1,←e2,←e3]
 have eI:qF E (Tm.show k t x)=j:=by refine Il (by omega) (fun i hi hij=>?_) (fun i hi hij=>?_);{rw [hsh];exact (So.Aq So.eD hs hi hj).2 hij};{rw [hsh];intro h;have:=(So.Aq So.eD hs hi hj).1 h;omega}
 refine ⟨eI,Im eI ⟨fun _=>⟨hj,hsh.symm⟩,fun _=>rfl⟩,?_⟩;rw [←e1,aeb,←e2,←e3];exact So.EL (So.EK So.eD hs) hj
theorem aec {E:List T3} {k:Int} {t x:List UInt8} (h:∀ j (hj:j<E.length),¬ ((E[j].1:Int)=k∧E[j].2.1=t∧E[j].2.2=x)):sG E k t x=0:=by unfold sG;split;{refine So.wT fun hm=>?_;obtain ⟨j,hj,e⟩:=List.getElem_of_mem hm;exact h j hj (by rw [e];exact ⟨by show ((k.toNat:Nat):Int)=k;omega,rfl,rfl⟩)};{rfl}
theorem aed (p:Nat) (L:List TR) (hl:∀ t∈L,Tm.aN t=true) (hn:L.length≤1000) (k:Int) (t x:List UInt8) (w:World) (h:fQ w p L) (ht:t.length≤1000000000) (hx:x.length≤1000000000) :
  Calls Tryz.prog 32 #[.pointer (some ⟨p,0,none⟩),bY k t x] w fun e w'=>e=.returned (.int .i64 (sG (So.terms L) k t x:Nat))∧Below w.heap.size w w':=by
 obtain ⟨vt,ve,r,h1,h2,h3,h4⟩:=h;have HE:=hid (So.uh hl);have HS:=hid (So.ug hl);have hlen:=So.lH L;obtain ⟨E,hE⟩:∃ E,E=So.terms L:=⟨_,rfl⟩;rw [←hE] at h3 HE HS hlen ⊢;clear hE;obtain ⟨a,cap,rfl,hc1,hc2,hc3⟩:=h3.open;have TS:=hid (fun W=>vN k t x W ht hx);have BS:=hid (fun (s:List UInt8) (W:World) (hv:bC W (.slice a E.length cap) E)=>aea E HE.out HS.out (by omega) s W _ hv);have HP:=hid h1;have HT:=hid h3;obtain ⟨s,hs⟩:∃ s,s=Tm.show k t x:=⟨_,rfl⟩;have FC:=hid hs;rw [←hs] at TS;obtain ⟨n,hn0⟩:∃ n,n=E.length:=⟨_,rfl⟩;rw [←hn0] at BS HT HP;have HN:=hid hn0;clear h1 h2 h3 h4 hc1 hc2 hc3 hs hn0;go_enter Tryz.func32,Tryz.ntmps32;go_upto_region 3 with fail
 obtain ⟨w2,hw2,k0,k1,k2,HB⟩:=Dc w (.int .i64 k) (str t) (str x) 61;rw [←hw2];have jZ:=hid (show aj w2 p [vt,.slice a n cap,.pointer (some ⟨r,0,none⟩)] 110 by rw [hw2];exact HP.out.alloc _);have HT2:=hid (show bC w2 (.slice a n cap) E from HT.out.keep HB.out);clear hw2;have p1:=fun q:Later w2.heap.size w2=>q.keep (jZ.out.cell (i:=1) rfl);refine fA w2.heap.size (by kernel_rfl) (by kernel_rfl) ?_;repeat (go_big_quiet_step (first
  | (go_at_call 57;with_reducible exact Later.call (Nat.le_refl _) (TS.out _))
  | (go_at_call 73;with_reducible exact Later.call (Nat.le_refl _) (BS.out s _ (HT2.out.keep (Later.low _))))))
 refine wpQuiet_nil ?_;rintro _ ⟨q,rfl⟩;have HQ:=hid (aA HB.out q.low);have Ip:=hid (HT2.out.keep q.low);have P1:=hid (p1 q);have K0:=hid (k0 q);have K1:=hid (k1 q);have K2:=hid (k2 q);generalize q.it=w5 at HQ Ip P1 K0 K1 K2 ⊢;clear k0 k1 k2 p1;by_cases hf:∃ j,∃ hj:j<E.length,(E[j].1:Int)=k∧E[j].2.1=t∧E[j].2.2=x
 · obtain ⟨j,hj,he⟩:=hf;obtain ⟨eI,eF,eO⟩:=QV HE.out HS.out k t x hj he;rw [←FC.out] at eI eF;rw [eI,eF];have HO:=hid eO;obtain ⟨b,off,rfl,hrow⟩:=Ip.out.get hj;have c0:=hrow j hj 0 (by omega);have c1:=hrow j hj 1 (by omega);have c2:=hrow j hj 2 (by omega);obtain ⟨u,hu⟩:∃ u,u=E[j]:=⟨_,rfl⟩;rw [←hu] at c0 c1 c2 he;have NE:=Io u k t x;rw [decide_eq_true he] at NE;have hjn:j<n:=(by rw [HN.out];exact hj);have hjz:(j:Int)<(n:Int):=(by omega);have xP:(j:Int)<1000000:=(by omega);obtain ⟨m,u1,u2⟩:=u;simp only [bG,List.getElem?_cons_zero,List.getElem?_cons_succ,Nat.add_zero] at c0 c1 c2;have p1:=P1.out;have k0:=K0.out;have k1:=K1.out;have k2:=K2.out;clear hrow hu he eI eF eO hj;go_wp2;go_region
   go_wp2;go_ret;exact ⟨by rw [HO.out];rfl,HQ.out.drew⟩
 · have HO:=hid (show sG E k t x=0 from aec fun j hj he=>hf ⟨j,hj,he⟩);cases hF:u7 E s with
   | false=>
    clear hf hF;have p1:=P1.out;have k0:=K0.out;have k1:=K1.out;have k2:=K2.out;go_wp2;go_region
    go_wp2;go_ret;exact ⟨by rw [HO.out];rfl,HQ.out.drew⟩
   | true=>
    have hF2:=hF;unfold u7 at hF2;rw [decide_eq_true_eq] at hF2;obtain ⟨j,hj0⟩:∃ j,j=qF E s:=⟨_,rfl⟩;rw [←hj0] at hF2 ⊢;have hj:j<E.length:=by rcases Nat.lt_or_ge j E.length with h | h;{exact h};{rw [List.getElem?_eq_none h] at hF2;cases hF2}
    have hne:¬ ((E[j].1:Int)=k∧E[j].2.1=t∧E[j].2.2=x):=fun he=>hf ⟨j,hj,he⟩;obtain ⟨b,off,rfl,hrow⟩:=Ip.out.get hj;have c0:=hrow j hj 0 (by omega);have c1:=hrow j hj 1 (by omega);have c2:=hrow j hj 2 (by omega);obtain ⟨u,hu⟩:∃ u,u=E[j]:=⟨_,rfl⟩;rw [←hu] at c0 c1 c2 hne;have NE:=Io u k t x;rw [decide_eq_false hne] at NE;have hjn:j<n:=(by rw [HN.out];exact hj);have hjz:(j:Int)<(n:Int):=(by omega);obtain ⟨m,u1,u2⟩:=u;simp only [bG,List.getElem?_cons_zero,List.getElem?_cons_succ,Nat.add_zero] at c0 c1 c2;have p1:=P1.out;have k0:=K0.out;have k1:=K1.out;have k2:=K2.out;clear hrow hu hne hj hj0 hF hF2 hf;go_wp2;go_region
    go_wp2;go_ret;exact ⟨by rw [HO.out];rfl,HQ.out.drew⟩
end Go.Proofs.YtjaebndajhppgaaGreatDoor
namespace Go.Proofs.YtjaebndajhppgaaGreatDoor
open Go Go.ChangeShapes Go.WideShapes Go.ChangeAt Go.RowKit
theorem aee (a b c d e f:Int) (w:World):(Op.equalIn 10000 77 (.agg #[.int .i64 a,.int .i64 b,.int .i64 c]) (.agg #[.int .i64 d,.int .i64 e,.int .i64 f])).run Tryz.prog w=.ok (decide (((a,b,c):Rg.T)=(d,e,f))) w:=by have u3:=Tryz.underlying3;have a3:=Tryz.isAgg3;have z3:=Tryz.sizeOf3;rw [show (10000:Nat)=9999+1 from rfl,Op.equalIn];simp only [Sem.run_bind,run_underlying Tryz.underlying77,Result.andThen_ok];simp only [Std.Legacy.Range.forIn_eq_forIn_range',Std.Legacy.Range.size,Nat.sub_zero,Nat.add_sub_cancel,Nat.div_one,List.range'_succ,List.range'_zero,List.forIn_cons,List.forIn_nil];go_simp;by_cases h1:a=d <;> by_cases h2:b=e <;> by_cases h3:c=f <;> simp [h1,h2,h3]
theorem aef (a b c d e f:Int) (w:World):(binOp .neq 77 (.agg #[.int .i64 a,.int .i64 b,.int .i64 c]) (.agg #[.int .i64 d,.int .i64 e,.int .i64 f])).run Tryz.prog w=.ok (.bool (!decide (((a,b,c):Rg.T)=(d,e,f)))) w:=by rw [run_neq_struct,aee];rfl
theorem aeg (v1 v2:Value) (k l:List Rg.T) (w:World) (h1:eX w v1 k) (h2:eX w v2 l) (hk:k.length≤140737488351232) (hl:l.length≤140737488351232) :
  Calls Tryz.prog 38 #[v1,v2] w fun e w'=>e=.returned (.bool (decide (k=l)))∧Below w.heap.size w w':=by
 obtain ⟨a1,MO,e1,p1,p2,p3⟩:=h1.open;obtain ⟨a2,cap2,e2,q1,q2,q3⟩:=h2.open;subst e1;subst e2;have H1:=hid h1;have H2:=hid h2;have EQ:=fun (a b c d e f:Int) w=>aef a b c d e f w;clear h1 h2;by_cases hne:k.length=l.length
 · obtain ⟨n,hn⟩:∃ n,n=k.length:=⟨_,rfl⟩;have hn2:n=l.length:=(by omega);have HN:=hid hn;have qY:=hid hn2;rw [←hn] at p1 hk ⊢;rw [←hn2] at q1 hl ⊢;clear hne hn hn2;go_enter Tryz.func38,Tryz.ntmps38;go_wp2;go_loopw [5] (fun s5 wr=>∃ i:Nat,i≤n∧s5=.int .i64 i∧Hid (Below w.heap.size w wr)∧Hid (k.take i=l.take i)) (fun s5 _=>n-(intOf s5).toNat)
   (case atStart=>exact ⟨0,by omega,rfl,Below.refl _ _,rfl⟩);case round=>
    obtain ⟨i,hi,rfl,HB,HE⟩:=hrel;by_cases hlt:i<n
    · have hik:i<k.length:=(by rw [←HN.out];exact hlt);have hil:i<l.length:=(by rw [←qY.out];exact hlt);obtain ⟨b1,o1,rfl,x1⟩:=(H1.out.keep HB.out).get hik;obtain ⟨b2,o2,rfl,x2⟩:=(H2.out.keep HB.out).get hil;obtain ⟨x,hx⟩:∃ x,x=k[i]:=⟨_,rfl⟩;obtain ⟨y,hy⟩:∃ y,y=l[i]:=⟨_,rfl⟩;have c0:=x1 i hik 0 (by omega);have c1:=x1 i hik 1 (by omega);have c2:=x1 i hik 2 (by omega);have d0:=x2 i hil 0 (by omega);have d1:=x2 i hil 1 (by omega);have d2:=x2 i hil 2 (by omega);rw [←hx] at c0 c1 c2;rw [←hy] at d0 d1 d2;have a0:∀ t:Rg.T,Rg.at' t 0=t.1:=fun t=>rfl;have a1:∀ t:Rg.T,Rg.at' t 1=t.2.1:=fun t=>rfl;have a2:∀ t:Rg.T,Rg.at' t 2=t.2.2:=fun t=>rfl;rw [a0,Nat.add_zero] at c0 d0;rw [a1] at c1 d1;rw [a2] at c2 d2;have QW:=fun w=>EQ x.1 x.2.1 x.2.2 y.1 y.2.1 y.2.2 w;have lu:(i:Int)<n:=(by omega);have HX:=hid hx;have HY:=hid hy;clear x1 x2 a0 a1 a2 EQ hx hy;by_cases hxy:x=y
      · have hd:decide (((x.1,x.2.1,x.2.2):Rg.T)=(y.1,y.2.1,y.2.2))=true:=decide_eq_true hxy;rw [hd] at QW;have m_:=hid hxy;clear hd hxy;(go_upto_region 6 with fail);(go_quiet (fail));go_wp2;go_roundw
        (case rel=>refine ⟨i+1,by omega,by go_num,hid (aX HB.out _),?_⟩;show k.take (i+1)=l.take (i+1);rw [List.take_add_one,List.take_add_one,HE.out,List.getElem?_eq_getElem hik,List.getElem?_eq_getElem hil,←HX.out,←HY.out,m_.out]);case measure=>simp [intOf];omega
      {have hd:decide (((x.1,x.2.1,x.2.2):Rg.T)=(y.1,y.2.1,y.2.2))=false:=decide_eq_false hxy;rw [hd] at QW;have hr:decide (k=l)=false:=(by rw [decide_eq_false_iff_not];intro e;subst e;exact hxy (HX.out.trans HY.out.symm));have HR:=hid hr;clear hd hxy hr;(go_upto_region 6 with fail);(go_quiet (fail));go_wp2;go_ret;exact ⟨by rw [HR.out];rfl,aX HB.out _⟩}
    {obtain rfl:i=n:=(by omega);have hr:decide (k=l)=true:=(by have:=HE.out;rw [List.take_of_length_le (by rw [←HN.out];exact Nat.le_refl _),List.take_of_length_le (by rw [←qY.out];exact Nat.le_refl _)] at this;exact decide_eq_true this);have HR:=hid hr;clear hr;go_wp2;go_ret;exact ⟨by rw [HR.out];rfl,HB.out⟩}
 {have hr:decide (k=l)=false:=(by rw [decide_eq_false_iff_not];intro e;exact hne (by rw [e]));have hb:(((k.length:Nat):Int)==((l.length:Nat):Int))=false:=(by rw [beq_eq_false_iff_ne];omega);have HR:=hid hr;clear hr;go_enter Tryz.func38,Tryz.ntmps38;go_wp2;go_ret;exact ⟨by rw [HR.out];rfl,Below.refl _ _⟩}
section
variable {H:Type} {enc:TypeId×Value→H} {W:World} {base:Nat} {v:Value} {d:DataW H} {p:List MemPlace}
end
end Go.Proofs.YtjaebndajhppgaaGreatDoor
