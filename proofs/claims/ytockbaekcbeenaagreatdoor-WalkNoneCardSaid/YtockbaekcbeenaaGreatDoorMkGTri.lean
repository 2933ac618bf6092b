/-GTri-/
import Derived.Test.YtockbaekcbeenaaGreatDoorMkHd1
import Derived.Test.YtockbaekcbeenaaGreatDoorMkGLn1
import Derived.Test.YtockbaekcbeenaaGreatDoorMkGTm3
import Derived.Test.YtockbaekcbeenaaGreatDoorMkGTm2
import Derived.Test.YtockbaekcbeenaaGreatDoorMkGTm1
import Derived.Lib.SmallJoins
import Derived.Maps.OwnSet
import Derived.Maps.OwnOps
import Derived.DeepKeys4
import Derived.Maps.Views
import Derived.Test.YtockbaekcbeenaaGreatDoorMkGB
import Derived.Deep.SlicePairs
import Derived.Lib.IndexMore
import Derived.Deep.RegionWith
import Derived.Deep.RegionLaw
set_option linter.unusedVariables false
set_option linter.unusedSimpArgs false
set_option maxRecDepth 100000
set_option maxHeartbeats 4000000
namespace Go.Proofs.YtockbaekcbeenaaGreatDoor
open Go.Proofs.Tryz
open Go.ChangeShapes Go.WideShapes Go.ChangeAt Go.RowKit
theorem aau {k:Int} {t x:List UInt8} (h:Tm.is k t x=true):1≤k:=by rcases Int.lt_or_le k 1 with hk | hk;{have:Tm.is k t x=false:=(by unfold Tm.is;simp only [show (k=1)=False from by simp;omega,show (k=2)=False from by simp;omega,show (k=3)=False from by simp;omega,show (k=4)=False from by simp;omega,show (k=5)=False from by simp;omega,if_false]);rw [this] at h;cases h};{exact hk}
def aav (w:World) (a1 a2 a3:List UInt8) (e:Ending) (w':World):Prop:=
 ∃ b,e=.returned (.slice (some ⟨b,0,none⟩) 3 3)∧w.heap.size≤b∧aB w' b [aA a1,aA a2,aA a3] 9∧Below w.heap.size w w'
theorem Qc (k1:Int) (t1 x1:List UInt8) (k2:Int) (t2 x2:List UInt8) (k3:Int) (t3 x3:List UInt8) (w:World) (ht1:t1.length≤1000000000) (hx1:x1.length≤1000000000) (ht2:t2.length≤1000000000) (hx2:x2.length≤1000000000) (ht3:t3.length≤1000000000) (hx3:x3.length≤1000000000) :
  Calls prog 102 #[gu k1 t1 x1 k2 t2 x2 k3 t3 x3] w (aav w (Tm.show k1 t1 x1) (Tm.show k2 t2 x2) (Tm.show k3 t3 x3)):=by
 have HB:=aj (show Below w.heap.size w (aX w k1 t1 x1 k2 t2 x2 k3 t3 x3) from (Below.refl _ _).alloc aG _);have HU:=aj (iU w k1 t1 x1 k2 t2 x2 k3 t3 x3);have S1:=aj (fun W=>Aw k1 t1 x1 W ht1 hx1);have S2:=aj (fun W=>Aw k2 t2 x2 W ht2 hx2);have S3:=aj (fun W=>Aw k3 t3 x3 W ht3 hx3);obtain ⟨a1,h1⟩:=aC (Tm.show k1 t1 x1);obtain ⟨a2,h2⟩:=aC (Tm.show k2 t2 x2);obtain ⟨a3,h3⟩:=aC (Tm.show k3 t3 x3);rw [←h1,←h2,←h3];rw [←h1] at S1;rw [←h2] at S2;rw [←h3] at S3;clear h1 h2 h3;go_enter func102,ntmps102;go_wp2;obtain ⟨w1,hw1⟩:=aC (aX w k1 t1 x1 k2 t2 x2 k3 t3 x3);show Code.wp _ _ _ _ (aX w k1 t1 x1 k2 t2 x2 k3 t3 x3);rw [←hw1] at HB HU ⊢;clear hw1;have Ay:=fun p:Later w1.heap.size w1=>p.keep (HU.out.cell (i:=0) rfl);have Az:=fun p:Later w1.heap.size w1=>p.keep (HU.out.cell (i:=1) rfl);have AA:=fun p:Later w1.heap.size w1=>p.keep (HU.out.cell (i:=2) rfl);have kc3:=fun p:Later w1.heap.size w1=>p.keep (HU.out.cell (i:=3) rfl);have kc4:=fun p:Later w1.heap.size w1=>p.keep (HU.out.cell (i:=4) rfl);have kc5:=fun p:Later w1.heap.size w1=>p.keep (HU.out.cell (i:=5) rfl);have kc6:=fun p:Later w1.heap.size w1=>p.keep (HU.out.cell (i:=6) rfl);have kc7:=fun p:Later w1.heap.size w1=>p.keep (HU.out.cell (i:=7) rfl);have kc8:=fun p:Later w1.heap.size w1=>p.keep (HU.out.cell (i:=8) rfl);refine M4 9 w1.heap.size aF aF ?_;simp only [List.take_succ_cons,List.take_zero,List.drop_succ_cons,List.drop_zero];repeat (go_big_quiet_step (first | (go_at_call 129;with_reducible exact Later.call aG (S1.out _)) | (go_at_call 129;with_reducible exact Later.call aG (S2.out _)) | (go_at_call 129;with_reducible exact Later.call aG (S3.out _))))
 refine wpQuiet_nil ?_;rintro wq ⟨q,hq⟩;have hlow:Below w1.heap.size w1 wq:=by rw [hq];exact q.low
 have d_:=aj (aI HB.out hlow);clear Ay Az AA kc3 kc4 kc5 kc6 kc7 kc8 hq q hlow;go_wp2;go_ret;exact ⟨wq.heap.size,rfl,d_.out.size,aB.new' rfl rfl,d_.out.alloc d_.out.size _⟩
structure dD where
 k1:Int
 t1:List UInt8
 x1:List UInt8
 k2:Int
 t2:List UInt8
 x2:List UInt8
 k3:Int
 t3:List UInt8
 x3:List UInt8
def dD.cells (a:dD):List Value:=[.int .i64 a.k1,aA a.t1,aA a.x1,.int .i64 a.k2,aA a.t2,aA a.x2,.int .i64 a.k3,aA a.t3,aA a.x3]
abbrev dD.v (a:dD):Value:=gu a.k1 a.t1 a.x1 a.k2 a.t2 a.x2 a.k3 a.t3 a.x3
def dD.is (a:dD):Bool:=dX a.k1 a.t1 a.x1 a.k2 a.t2 a.x2 a.k3 a.t3 a.x3
def dD.low (a:dD) (n:Nat):Prop:=a.t1.length≤n∧a.x1.length≤n∧a.t2.length≤n∧a.x2.length≤n∧a.t3.length≤n∧a.x3.length≤n
def vQ (w:World) (p o:Nat) (a:dD):Prop:=∀ i,i<9→w.cell? ⟨p,o+i,none⟩=(a.cells)[i]?
theorem vQ.at {w:World} {p o:Nat} {a:dD} (h:vQ w p o a) (i:Nat) (hi:i<9) {v:Value} (hv:(a.cells)[i]?=some v):w.cell? ⟨p,o+i,none⟩=some v:=(h i hi).trans hv
theorem vQ.keep {w w':World} {p o:Nat} {a:dD} (h:vQ w p o a) (hb:Below w.heap.size w w'):vQ w' p o a:=by intro i hi;have h1:=h i hi;have h2:(a.cells)[i]?=some ((a.cells)[i]'(hi)):=List.getElem?_eq_getElem hi;rw [h2] at h1 ⊢;exact aD hb h1
end Go.Proofs.YtockbaekcbeenaaGreatDoor
namespace Go.Proofs.YtockbaekcbeenaaGreatDoor.Tm
open Go
theorem aaw (n n' b0 b1 b2 b3 c1 c2 c3:Nat) (hv:¬ ((Lib.decodeN n b0 b1 b2 b3).1=65533∧(Lib.decodeN n b0 b1 b2 b3).2=1)) (hn:(Lib.decodeN n b0 b1 b2 b3).2≤n') (h1:1<(Lib.decodeN n b0 b1 b2 b3).2→c1=b1) (h2:2<(Lib.decodeN n b0 b1 b2 b3).2→c2=b2) (h3:3<(Lib.decodeN n b0 b1 b2 b3).2→c3=b3) :
  Lib.decodeN n' b0 c1 c2 c3=Lib.decodeN n b0 b1 b2 b3:=by unfold Lib.decodeN at *;by_cases a:b0<128;{rw [if_pos a,if_pos a]};rw [if_neg a] at hv hn h1 h2 h3 ⊢;rw [if_neg a];by_cases a1:b0 / 32=6∧(1<n∧b1 / 64=2);{rw [if_pos a1] at hv hn h1 h2 h3 ⊢;by_cases g:b0 % 32*64+b1 % 64≥128;{rw [if_pos g] at hn h1 h2 h3 ⊢;have e:=h1 aH;subst e;simp only at hn;rw [if_pos (show b0 / 32=6∧(1<n'∧c1 / 64=2) from ⟨a1.1,ay,a1.2.2⟩),if_pos g]};{rw [if_neg g] at hv;exact absurd ⟨rfl,rfl⟩ hv}};rw [if_neg a1] at hv hn h1 h2 h3 ⊢;by_cases a2:b0 / 16=14∧(1<n∧b1 / 64=2)∧(2<n∧b2 / 64=2);{rw [if_pos a2] at hv hn h1 h2 h3 ⊢;split at hv;{rename_i g;rw [if_pos g] at hn h1 h2 h3 ⊢;have e:=h1 aH;have e2:=h2 aH;subst e;subst e2;simp only at hn;obtain ⟨p,⟨q,r⟩,q2,r2⟩:=a2;rw [if_neg (show ¬ (b0 / 32=6∧(1<n'∧c1 / 64=2)) by omega),if_pos (show b0 / 16=14∧(1<n'∧c1 / 64=2)∧(2<n'∧c2 / 64=2) from ⟨p,⟨ay,r⟩,ay,r2⟩),if_pos g]};{exact absurd ⟨rfl,rfl⟩ hv}};rw [if_neg a2] at hv hn h1 h2 h3 ⊢;by_cases a3:b0 / 8=30∧(1<n∧b1 / 64=2)∧(2<n∧b2 / 64=2)∧(3<n∧b3 / 64=2);{rw [if_pos a3] at hv hn h1 h2 h3 ⊢;split at hv;{rename_i g;rw [if_pos g] at hn h1 h2 h3 ⊢;have e:=h1 aH;have e2:=h2 aH;have e3:=h3 aH;subst e;subst e2;subst e3;simp only at hn;obtain ⟨p,⟨q,r⟩,⟨q2,r2⟩,q3,r3⟩:=a3;rw [if_neg (show ¬ (b0 / 32=6∧(1<n'∧c1 / 64=2)) by omega),if_neg (show ¬ (b0 / 16=14∧(1<n'∧c1 / 64=2)∧(2<n'∧c2 / 64=2)) by omega),if_pos (show b0 / 8=30∧(1<n'∧c1 / 64=2)∧(2<n'∧c2 / 64=2)∧(3<n'∧c3 / 64=2) from ⟨p,⟨ay,r⟩,⟨ay,r2⟩,ay,r3⟩),if_pos g]};{exact absurd ⟨rfl,rfl⟩ hv}};rw [if_neg a3] at hv;exact absurd ⟨rfl,rfl⟩ hv
theorem aax {a b:List UInt8} {k:Nat} (h:k<a.length):(a++b).getD k 0=a.getD k 0:=by simp [List.getD,List.getElem?_append_left h]
theorem Jf (a:List UInt8) (ha:a≠[]) (hv:¬ ((Lib.decodeL a).1=65533∧(Lib.decodeL a).2=1)):(Lib.decodeL a).2≤a.length:=by
 have hl:0<a.length:=List.length_pos_iff.2 ha;rw [Lib.decodeL_N] at hv ⊢;revert hv;generalize (a.getD 0 0).toNat=b0;generalize (a.getD 1 0).toNat=b1;generalize (a.getD 2 0).toNat=b2;generalize (a.getD 3 0).toNat=b3;unfold Lib.decodeN;repeat' split
 all_goals (intro hv;simp_all <;> omega)
theorem Qd (a b:List UInt8) (ha:a≠[]) (hv:¬ ((Lib.decodeL a).1=65533∧(Lib.decodeL a).2=1)) (hb:(Lib.decodeL a).2≤b.length) (h:∀ k,k<(Lib.decodeL a).2→b.getD k 0=a.getD k 0):Lib.decodeL b=Lib.decodeL a:=by have hw:=Lib.decodeL_width a;have h0:=h 0 ay;rw [Lib.decodeL_N] at hv hb h;rw [Lib.decodeL_N,Lib.decodeL_N,h0];exact aaw _ _ _ _ _ _ _ _ _ hv hb (fun hk=>by rw [h 1 hk]) (fun hk=>by rw [h 2 hk]) (fun hk=>by rw [h 3 hk])
theorem aay (a b:List UInt8) (ha:a≠[]) (hv:¬ ((Lib.decodeL a).1=65533∧(Lib.decodeL a).2=1)):Lib.decodeL (a++b)=Lib.decodeL a:=by have hle:=Jf a ha hv;exact Qd a (a++b) ha hv (by rw [List.length_append];omega) (fun k hk=>aax ay)
theorem Ev:∀ (n:Nat) (a b:List UInt8),a.length≤n→Lib.validD a=true→Lib.validD (a++b)=Lib.validD b
 | _,[],b,_,_=>rfl
 | 0,c::a,b,hn,_=>by simp at hn
 | n+1,c::a,b,hn,h=>by
  have hne:(c::a:List UInt8)≠[]:=aH
  rw [Lib.validD_step _ hne] at h
  split at h
  · cases h
  · rename_i hv
    have hd:=aay (c::a) b hne hv
    have hle:=Jf (c::a) hne hv
    have hw:=Lib.decodeL_width (c::a)
    rw [Lib.validD_step (c::a++b) aH,hd,if_neg hv,List.drop_append_of_le_length hle]
    refine Ev n _ b ?_ h
    rw [List.length_drop]
    simp only [List.length_cons] at hn hw ⊢
    omega
theorem Ew:∀ (s:List UInt8),(∀ c∈s,c.toNat<128)→Lib.validD s=true
 | [],_=>rfl
 | c::s,h=>by rw [Lib.validD_cons _ _ (h c aH),Ew s (fun d hd=>h d (by simp [hd]))]
theorem Qe:∀ k:Fin 16,(gU k.val).toNat<128:=aL
theorem aaz (c:UInt8) (h:c.toNat<128):∀ d∈esc c,d.toNat<128:=by
 unfold esc;have h1:=Qe ⟨c.toNat / 16,ay⟩;have h2:=Qe ⟨c.toNat % 16,ay⟩;simp only at h1 h2;intro d hd;split at hd;{simp at hd;rcases hd with rfl | rfl;decide;exact h};repeat' (split at hd)
 all_goals (simp at hd)
 all_goals first
  | (rcases hd with rfl | rfl <;> decide)
  | (rcases hd with rfl | rfl | rfl | rfl | rfl <;> first | exact h1 | exact h2 | decide)
  | (subst hd;exact h)
theorem aaA (c:UInt8) (h:128≤c.toNat):esc c=[c]:=
 Nc c ay (fun e=>by subst e;revert h;decide) (fun e=>by subst e;revert h;decide) (fun e=>by subst e;revert h;decide)
theorem Qf:∀ (s:List UInt8),(∀ c∈s,128≤c.toNat)→bL s=s
 | [],_=>rfl
 | c::s,h=>by rw [zR,aaA c (h c aH),Qf s (fun d hd=>h d (by simp [hd]))];rfl
theorem aaB (a:List UInt8) (ha:a≠[]) (h0:128≤(a.getD 0 0).toNat):∀ c∈a.take (Lib.decodeL a).2,128≤c.toNat:=by
 intro c hc;obtain ⟨k,hk,e⟩:=List.mem_iff_getElem.1 hc;have xR:k<(Lib.decodeL a).2:=by rw [List.length_take] at hk;omega
 have hkl:k<a.length:=by rw [List.length_take] at hk;omega
 have e2:a.getD k 0=c:=by rw [←e,List.getElem_take];rw [List.getD,List.getElem?_eq_getElem hkl];rfl
 have ht:=Nk a.length (a.getD 0 0).toNat (a.getD 1 0).toNat (a.getD 2 0).toNat (a.getD 3 0).toNat;rw [←Lib.decodeL_N] at ht;obtain ⟨t1,t2,t3,t4⟩:=ht;have:k=0∨k=1∨k=2∨k=3:=ay;rcases this with rfl | rfl | rfl | rfl;{rw [←e2];exact h0};{have:=t1 ay;rw [e2] at this;omega};{have:=t2 ay;rw [e2] at this;omega};{have:=t3 ay;rw [e2] at this;omega}
theorem AB:∀ (n:Nat) (s:List UInt8),s.length≤n→Lib.validD s=true→Lib.validD (bL s)=true
 | _,[],_,_=>rfl
 | 0,c::s,hn,_=>by simp at hn
 | n+1,c::s,hn,h=>by
  simp only [List.length_cons] at hn
  by_cases hc:c.toNat<128
  · rw [Lib.validD_cons _ _ hc] at h
    rw [zR,Ev _ _ _ aG (Ew _ (aaz c hc))]
    exact AB n s ay h
  · have hne:(c::s:List UInt8)≠[]:=aH
    have h':=h
    rw [Lib.validD_step _ hne] at h'
    split at h'
    · cases h'
    · rename_i hv
      have hle:=Jf (c::s) hne hv
      have hw:=Lib.decodeL_width (c::s)
      have hhi:=aaB (c::s) hne (by simp only [List.getD_cons_zero];omega)
      have hsp:=List.take_append_drop (Lib.decodeL (c::s)).2 (c::s)
      obtain ⟨k,hk⟩:=aC ((Lib.decodeL (c::s)).2)
      rw [←hk] at hle hw hhi hsp h' hv
      have htl:((c::s).take k).length=k:=by rw [List.length_take];omega
      have hvt:Lib.validD ((c::s).take k)=true:=by
       have hne2:(c::s).take k≠[]:=by intro e;have:=congrArg List.length e;rw [htl] at this;simp at this;omega
       have hd:Lib.decodeL ((c::s).take k)=Lib.decodeL (c::s):=by
        refine Qd (c::s) _ hne (by rw [←hk];exact hv) (by rw [htl,hk];exact Nat.le_refl _) (fun j hj=>?_)
        rw [←hk] at hj
        simp [List.getD,List.getElem?_take,hj]
       rw [Lib.validD_step _ hne2,hd,if_neg (by rw [←hk];exact hv),List.drop_eq_nil_of_le (by rw [htl,hk];exact Nat.le_refl _)]
       rfl
      rw [←hsp,Nb,Qf _ hhi,Ev _ _ _ aG hvt]
      refine AB n _ ?_ h'
      rw [List.length_drop];simp only [List.length_cons];omega
end Go.Proofs.YtockbaekcbeenaaGreatDoor.Tm
namespace Go.Proofs.YtockbaekcbeenaaGreatDoor
open Go.Proofs.Tryz
open Go.ChangeShapes Go.WideShapes Go.ChangeAt Go.RowKit
namespace Tm
theorem iD {k:Int} {t x:List UInt8} (h:Tm.is k t x=true):∃ n:Nat,k=n∧1≤n∧n≤5:=by unfold Tm.is at h;refine ⟨k.toNat,?_⟩;by_cases h1:k=1;{subst h1;exact ⟨rfl,aL⟩};by_cases h2:k=2;{subst h2;exact ⟨rfl,aL⟩};by_cases h3:k=3;{subst h3;exact ⟨rfl,aL⟩};by_cases h4:k=4;{subst h4;exact ⟨rfl,aL⟩};by_cases h5:k=5;{subst h5;exact ⟨rfl,aL⟩};rw [if_neg h1,if_neg h2,if_neg h3,if_neg h4,if_neg h5] at h;cases h
theorem yj {n:Nat} {t x:List UInt8} (h:Tm.is (n:Int) t x=true) :
  (n=1∧x=[]∧fF t=true)∨(n=2∧x=[]∧label t=true)∨(n=3∧x=[]∧text t=true)∨(n=4∧lang x=true∧text t=true)∨(n=5∧fF x=true∧text t=true):=by obtain ⟨m,hm,h1,h5⟩:=iD h;obtain rfl:n=m:=ay;clear hm;have hn:n=1∨n=2∨n=3∨n=4∨n=5:=ay;rcases hn with rfl | rfl | rfl | rfl | rfl;{have h':(x.isEmpty && fF t)=true:=h;rw [Bool.and_eq_true] at h';exact .inl ⟨rfl,by simpa using h'.1,h'.2⟩};{have h':(x.isEmpty && label t)=true:=h;rw [Bool.and_eq_true] at h';exact .inr (.inl ⟨rfl,by simpa using h'.1,h'.2⟩)};{have h':(x.isEmpty && text t)=true:=h;rw [Bool.and_eq_true] at h';exact .inr (.inr (.inl ⟨rfl,by simpa using h'.1,h'.2⟩))};{have h':(lang x && text t)=true:=h;rw [Bool.and_eq_true] at h';exact .inr (.inr (.inr (.inl ⟨rfl,h'.1,h'.2⟩)))};{have h':(fF x && text t)=true:=h;rw [Bool.and_eq_true] at h';exact .inr (.inr (.inr (.inr ⟨rfl,h'.1,h'.2⟩)))}
theorem Ey {s:List UInt8} (h:fF s=true):1≤s.length∧s.length≤60∧Lib.validD s=true:=by unfold fF at h;simp only [Bool.and_eq_true,decide_eq_true_eq] at h;exact ⟨h.1.1.1,h.1.1.2,h.1.2⟩
theorem yt {s:List UInt8} (h:text s=true):s.length≤30∧Lib.validD s=true:=by unfold text at h;simp only [Bool.and_eq_true,decide_eq_true_eq] at h;exact h
theorem AJ {s:List UInt8} (h:label s=true):1≤s.length∧s.length≤8∧∀ c∈s,eu c=true:=by unfold label at h;simp only [Bool.and_eq_true,decide_eq_true_eq,List.all_eq_true] at h;exact ⟨h.1.1,h.1.2,h.2⟩
theorem Qg {s:List UInt8} (h:lang s=true):s.length≤16∧∀ c∈s,c.toNat<128:=by unfold lang at h;simp only [Bool.and_eq_true,decide_eq_true_eq] at h;refine ⟨h.2,fun c hc=>?_⟩;have:=xQ s false 0 h.1 c hc;simp only [small,digit,Bool.or_eq_true,Bool.and_eq_true,decide_eq_true_eq,beq_iff_eq] at this;rcases this with (h | h) | h;{omega};{omega};{subst h;decide}
theorem aaC {c:UInt8} (h:eu c=true):c.toNat<128:=by simp only [eu,small,digit,Bool.or_eq_true,Bool.and_eq_true,decide_eq_true_eq] at h;omega
theorem tX {a b:List UInt8} (ha:Lib.validD a=true) (hb:Lib.validD b=true):Lib.validD (a++b)=true:=by rw [Ev _ _ _ aG ha,hb]
theorem kR {c:UInt8} {b:List UInt8} (hc:c.toNat<128) (hb:Lib.validD b=true):Lib.validD (c::b)=true:=by rw [Lib.validD_cons _ _ hc,hb]
theorem Jg {n:Nat} {t x:List UInt8} (h:Tm.is (n:Int) t x=true):Lib.validD (aO n t x)=true:=by rcases yj h with ⟨rfl,rfl,h1⟩ | ⟨rfl,rfl,h1⟩ | ⟨rfl,rfl,h1⟩ | ⟨rfl,h1,h2⟩ | ⟨rfl,h1,h2⟩;{show Lib.validD (60::(t++[62]))=true;exact kR aL (tX (Ey h1).2.2 aL)};{show Lib.validD (95::58::t)=true;exact kR aL (kR aL (Ew _ (fun c hc=>aaC ((AJ h1).2.2 c hc))))};{show Lib.validD (34::(bL t++[34]))=true;exact kR aL (tX (AB _ _ aG (yt h1).2) aL)};{show Lib.validD (34::(bL t++34::64::x))=true;exact kR aL (tX (AB _ _ aG (yt h2).2) (kR aL (kR aL (Ew _ (Qg h1).2))))};{show Lib.validD (34::(bL t++34::94::94::60::(x++[62])))=true;exact kR aL (tX (AB _ _ aG (yt h2).2) (kR aL (kR aL (kR aL (kR aL (tX (Ey h1).2.2 aL))))))}
theorem iV {n:Nat} {t x:List UInt8} (h:Tm.is (n:Int) t x=true):(aO n t x).length≤250∧t.length≤60∧x.length≤60:=by have he:=n_ t;rcases yj h with ⟨rfl,rfl,h1⟩ | ⟨rfl,rfl,h1⟩ | ⟨rfl,rfl,h1⟩ | ⟨rfl,h1,h2⟩ | ⟨rfl,h1,h2⟩;{have:=Ey h1;refine ⟨?_,ay,aH⟩;show (60::(t++[62])).length≤250;simp;omega};{have:=AJ h1;refine ⟨?_,ay,aH⟩;show (95::58::t).length≤250;simp;omega};{have:=yt h1;refine ⟨?_,ay,aH⟩;show (34::(bL t++[34])).length≤250;simp;omega};{have:=yt h2;have:=Qg h1;refine ⟨?_,ay,ay⟩;show (34::(bL t++34::64::x)).length≤250;simp;omega};{have:=yt h2;have:=Ey h1;refine ⟨?_,ay,ay⟩;show (34::(bL t++34::94::94::60::(x++[62]))).length≤250;simp;omega}
theorem Qh {n:Nat} {t x:List UInt8} (h:Tm.is (n:Int) t x=true):dY (aO n t x)=some (n,t,x,[]):=by rcases yj h with ⟨rfl,rfl,h1⟩ | ⟨rfl,rfl,h1⟩ | ⟨rfl,rfl,h1⟩ | ⟨rfl,h1,h2⟩ | ⟨rfl,h1,h2⟩;{exact Ws (xS h1)};{exact Wt (AJ h1).2.2};{exact Wu t};{exact Ww h1};{exact Wx (xS h1)}
theorem Ez {n m:Nat} {t x u y:List UInt8} (h:Tm.is (n:Int) t x=true) (h2:Tm.is (m:Int) u y=true):aO n t x=aO m u y↔(n=m∧t=u∧x=y):=by constructor;{intro e;have:=Qh h;rw [e,Qh h2] at this;simp only [Option.some.injEq,Prod.mk.injEq] at this;exact ⟨this.1.symm,this.2.1.symm,this.2.2.1.symm⟩};{rintro ⟨rfl,rfl,rfl⟩;rfl}
end Tm
open Go.ChangeShapes Go.WideShapes Go.ChangeAt Go.RowKit
theorem aaD {l:List Value} (h:l.length=9):∃ c0 c1 c2 c3 c4 c5 c6 c7 c8,l=[c0,c1,c2,c3,c4,c5,c6,c7,c8]:=by
 rcases l with _ | ⟨c0,_ | ⟨c1,_ | ⟨c2,_ | ⟨c3,_ | ⟨c4,_ | ⟨c5,_ | ⟨c6,_ | ⟨c7,_ | ⟨c8,_ | ⟨c9,l⟩⟩⟩⟩⟩⟩⟩⟩⟩⟩;all_goals (try simp at h)
 exact ⟨c0,c1,c2,c3,c4,c5,c6,c7,c8,rfl⟩
theorem Jh {H:Type} {enc:TypeId×Value→H} {W:World} {n:Nat} {c0 c1 c2:Value} {y:DataW H×List MemPlace} (h:DataW.trod enc prog W 0 (fun _=>true) true n 63 [c0,c1,c2]=some y) :
  ∃ (k:Int) (t x:List UInt8),c0=.int .i64 k∧c1=aA t∧c2=aA x∧y.1=.agg [.lit (.int .i64 k),.lit (.string t),.lit (.string x)]:=by obtain ⟨y0,y1,y2,m,hx,_,h0,h1,h2⟩:=Go.Deep.trod_struct3 underlying63 h;have g0:DataW.trod enc prog W 0 (fun _=>true) true m 3 [c0]=some y0:=h0;have g1:DataW.trod enc prog W 0 (fun _=>true) true m 9 [c1]=some y1:=h1;have g2:DataW.trod enc prog W 0 (fun _=>true) true m 9 [c2]=some y2:=h2;obtain ⟨k,e0,f0,w0⟩:=DataW.trod_int underlying3 g0;obtain ⟨t,e1,f1,w1⟩:=DataW.trod_string underlying9 g1;obtain ⟨x,e2,f2,w2⟩:=DataW.trod_string underlying9 g2;simp only [List.cons.injEq,and_true] at e0 e1 e2;refine ⟨k,t.data.toList,x.data.toList,e0,by rw [e1,Hq t],by rw [e2,Hq x],?_⟩;rw [hx,f0,f1,f2]
theorem Qi:Go.laidOutB prog=true:=aF
theorem aaE:65<prog.types.size:=of_decide_eq_true aF
theorem aaF:(match prog.underlying 65 with | some (.array _ _) | some (.struct _)=>true | _=>false)=true:=aF
theorem rO:Maps.Keyed prog 65:=Maps.Keyed.of_law (deep_law_laid Qi (m:=4) ay aaE aF aaF)
theorem aaG:prog.keyType 65=true:=aF
theorem keyLits_int (d:Nat) (k:Int) (hk:(Lit.int .i64 k).wf=true):prog.keyLits (d+1) 3 [.int .i64 k]=some [.int .i64 k]:=by unfold Program.keyLits;rw [underlying3];simp [hk]
theorem Qj (d:Nat) (t:List UInt8) (ht:t.length≤maxLen):prog.keyLits (d+1) 9 [aA t]=some [.string t]:=by unfold Program.keyLits;rw [underlying9];simp [ByteArray.size,ht]
theorem Ji:prog.cellsOf 63=3:=aF
theorem aaH:prog.cellsOf 3=1:=aF
theorem aaI:prog.cellsOf 9=1:=aF
theorem Qk:prog.cellsOf 65=9:=aF
theorem EA (d:Nat) (k:Int) (t x:List UInt8) (hk:(Lit.int .i64 k).wf=true) (ht:t.length≤maxLen) (hx:x.length≤maxLen) :
  prog.keyLits (d+2) 63 [.int .i64 k,aA t,aA x]=some [.int .i64 k,.string t,.string x]:=by have e1:=keyLits_int d k hk;have e2:=Qj d t ht;have e3:=Qj d x hx;have c1:=Ji;have c2:=aaH;have c3:=aaI;unfold Program.keyLits;rw [underlying63];simp [c1,c2,c3,e1,e2,e3]
theorem aaJ (d:Nat) (k1 k2 k3:Int) (t1 x1 t2 x2 t3 x3:List UInt8) (h1:(Lit.int .i64 k1).wf=true) (h2:(Lit.int .i64 k2).wf=true) (h3:(Lit.int .i64 k3).wf=true) (ht1:t1.length≤maxLen) (hx1:x1.length≤maxLen) (ht2:t2.length≤maxLen) (hx2:x2.length≤maxLen) (ht3:t3.length≤maxLen) (hx3:x3.length≤maxLen) :
  prog.keyLits (d+3) 65 [.int .i64 k1,aA t1,aA x1,.int .i64 k2,aA t2,aA x2,.int .i64 k3,aA t3,aA x3]=some [.int .i64 k1,.string t1,.string x1,.int .i64 k2,.string t2,.string x2,.int .i64 k3,.string t3,.string x3]:=by have e1:=EA d k1 t1 x1 h1 ht1 hx1;have e2:=EA d k2 t2 x2 h2 ht2 hx2;have e3:=EA d k3 t3 x3 h3 ht3 hx3;have c1:=Ji;have c4:=Qk;unfold Program.keyLits;rw [underlying65];simp [c1,c4,e1,e2,e3]
def EB (k1:Int) (t1 x1:List UInt8) (k2:Int) (t2 x2:List UInt8) (k3:Int) (t3 x3:List UInt8):Lit:=
 .string (keyBytes [.int .i64 k1,.string t1,.string x1,.int .i64 k2,.string t2,.string x2,.int .i64 k3,.string t3,.string x3])
theorem aaK (k1 k2 k3:Int) (t1 x1 t2 x2 t3 x3:List UInt8) (h1:(Lit.int .i64 k1).wf=true) (h2:(Lit.int .i64 k2).wf=true) (h3:(Lit.int .i64 k3).wf=true) (ht1:t1.length≤maxLen) (hx1:x1.length≤maxLen) (ht2:t2.length≤maxLen) (hx2:x2.length≤maxLen) (ht3:t3.length≤maxLen) (hx3:x3.length≤maxLen) :
  keyOf prog 65 (gu k1 t1 x1 k2 t2 x2 k3 t3 x3)=some (EB k1 t1 x1 k2 t2 x2 k3 t3 x3):=by
 obtain ⟨d,hd⟩:∃ d,prog.types.size+1=d+3:=⟨prog.types.size-2,by have:3≤prog.types.size:=of_decide_eq_true aF;omega⟩;have e:=aaJ d k1 k2 k3 t1 x1 t2 x2 t3 x3 h1 h2 h3 ht1 hx1 ht2 hx2 ht3 hx3;have hf:(gu k1 t1 x1 k2 t2 x2 k3 t3 x3).formed prog 65=true:=by have c4:=Qk;have u:=underlying65;simp [Value.formed,u,c4]
 have u:=underlying65;unfold keyOf;rw [u];simp only;rw [aaG,hf,hd];have ec:(gu k1 t1 x1 k2 t2 x2 k3 t3 x3).cells.toList=[.int .i64 k1,aA t1,aA x1,.int .i64 k2,aA t2,aA x2,.int .i64 k3,aA t3,aA x3]:=by simp [Value.cells]
 rw [ec,e];rfl
abbrev TR:=Tm.T3×Tm.T3×Tm.T3
abbrev rP (t:TR):Value:=gu (t.1.1:Nat) t.1.2.1 t.1.2.2 (t.2.1.1:Nat) t.2.1.2.1 t.2.1.2.2 (t.2.2.1:Nat) t.2.2.2.1 t.2.2.2.2
def kS (t:TR):Lit:=EB (t.1.1:Nat) t.1.2.1 t.1.2.2 (t.2.1.1:Nat) t.2.1.2.1 t.2.1.2.2 (t.2.2.1:Nat) t.2.2.2.1 t.2.2.2.2
def rQ (t:TR):Prop:=(t.1.1≤5∧t.1.2.1.length≤100000000∧t.1.2.2.length≤100000000)∧(t.2.1.1≤5∧t.2.1.2.1.length≤100000000∧t.2.1.2.2.length≤100000000)∧(t.2.2.1≤5∧t.2.2.2.1.length≤100000000∧t.2.2.2.2.length≤100000000)
theorem EC {n:Nat} (h:n≤5):(Lit.int .i64 (n:Nat)).wf=true:=by rcases (show n=0∨n=1∨n=2∨n=3∨n=4∨n=5 by omega) with rfl | rfl | rfl | rfl | rfl | rfl <;> decide
theorem yu {t:TR} (h:rQ t):keyOf prog 65 (rP t)=some (kS t):=by obtain ⟨⟨a1,a2,a3⟩,⟨b1,b2,b3⟩,c1,c2,c3⟩:=h;exact aaK _ _ _ _ _ _ _ _ _ (EC a1) (EC b1) (EC c1) (by unfold maxLen;omega) (by unfold maxLen;omega) (by unfold maxLen;omega) (by unfold maxLen;omega) (by unfold maxLen;omega) (by unfold maxLen;omega)
theorem aaL {s t:TR} (hs:rQ s) (ht:rQ t) (h:kS s=kS t):s=t:=by have e:=rO.inj (yu hs) (h ▸ yu ht);obtain ⟨⟨s1,s2,s3⟩,⟨s4,s5,s6⟩,s7,s8,s9⟩:=s;obtain ⟨⟨t1,t2,t3⟩,⟨t4,t5,t6⟩,t7,t8,t9⟩:=t;simp only [gu,Value.agg.injEq,Array.mk.injEq,List.cons.injEq,Value.int.injEq,true_and,and_true,Int.natCast_inj] at e;obtain ⟨e1,e2,e3,e4,e5,e6,e7,e8,e9⟩:=e;rw [e1,str_inj e2,str_inj e3,e4,str_inj e5,str_inj e6,e7,str_inj e8,str_inj e9]
def fV (l:List TR):DataW Unit:=Maps.setOf (.agg []) (l.map kS)
theorem Ql (l:List TR) (t:TR):fV (l++[t])=(fV l).put (kS t) (.agg []):=by unfold fV;rw [List.map_append,List.map_cons,List.map_nil,Maps.setOf_snoc]
theorem ED {l:List TR} {t:TR} (hl:∀ s∈l,rQ s) (ht:rQ t):Maps.has (fV l) (kS t)=decide (t∈l):=by unfold fV;rw [Maps.has_setOf _ _ _ (fun x hx=>by obtain ⟨s,hs,rfl⟩:=List.mem_map.1 hx;exact rO.key (yu (hl s hs)))];rw [Bool.eq_iff_iff];simp only [List.any_eq_true,List.mem_map,decide_eq_true_eq];constructor;{rintro ⟨x,⟨s,hs,rfl⟩,hx⟩;have:kS s=kS t:=(by simpa [kS,EB,Lit.sameKey] using hx);rw [←aaL (hl s hs) ht this];exact hs};{intro h;exact ⟨_,⟨t,h,rfl⟩,by simp [kS,EB,Lit.sameKey]⟩}
instance:Inhabited dD:=⟨⟨0,[],[],0,[],[],0,[],[]⟩⟩
def b_ (W:World) (v:Value) (L:List dD):Prop:=∃ (a:Option Addr) (cap:Nat),v=.slice a L.length cap∧L.length≤cap∧cap≤maxLen∧(a=none→cap=0) ∧
 (L.length=0∨∃ b off,a=some ⟨b,off,none⟩∧∀ i (h:i<L.length),vQ W b (off+i*9) L[i])
theorem b_.keep {W W':World} {v:Value} {L:List dD} (h:b_ W v L) (hb:Below W.heap.size W W'):b_ W' v L:=by obtain ⟨a,cap,h1,h2,h3,h4,h5⟩:=h;refine ⟨a,cap,h1,h2,h3,h4,?_⟩;rcases h5 with h5 | ⟨b,off,e,h5⟩;{exact Or.inl h5};{exact Or.inr ⟨b,off,e,fun i hi=>(h5 i hi).keep hb⟩}
theorem b_.drawn {W:World} {v:Value} {L:List dD} (h:b_ W v L) (n:Nat):b_ (W.drewN n) v L:=h
theorem b_.nil (W:World):b_ W (.slice none 0 0) []:=⟨none,0,rfl,Nat.le_refl _,by unfold maxLen;omega,fun _=>rfl,Or.inl rfl⟩
theorem b_.open {W:World} {v:Value} {L:List dD} (h:b_ W v L):∃ a cap,v=.slice a L.length cap∧L.length≤cap∧cap≤maxLen∧(a=none→cap=0):=by obtain ⟨a,cap,h1,h2,h3,h4,_⟩:=h;exact ⟨a,cap,h1,h2,h3,h4⟩
theorem b_.get {W:World} {a:Option Addr} {n cap:Nat} {L:List dD} (h:b_ W (.slice a n cap) L) {i:Nat} (hi:i<L.length):∃ b off,a=some ⟨b,off,none⟩∧∀ i (h:i<L.length),vQ W b (off+i*9) L[i]:=by obtain ⟨a',cap',e,h2,h3,h4,h5⟩:=h;simp only [Value.slice.injEq] at e;obtain ⟨rfl,rfl,rfl⟩:=e;rcases h5 with h5 | h5;{omega};{exact h5}
theorem b_.front {W:World} {a:Option Addr} {n cap:Nat} {L:List dD} (h:b_ W (.slice a n cap) L) (k:Nat) (hk:k≤n):b_ W (.slice a k cap) (L.take k):=by
 obtain ⟨a',cap',e,h1,h2,h3,r⟩:=h;simp only [Value.slice.injEq] at e;obtain ⟨rfl,rfl,rfl⟩:=e;have hl:(L.take k).length=k:=by rw [List.length_take];omega
 refine ⟨a,cap,by rw [hl],ay,h2,h3,?_⟩;rcases r with h0 | ⟨b,off,ha,hc⟩;{exact Or.inl ay};{refine Or.inr ⟨b,off,ha,fun i hi=>?_⟩;have:=hc i ay;rwa [List.getElem_take]}
theorem b_.back {W:World} {b off n cap:Nat} {L:List dD} (h:b_ W (.slice (some ⟨b,off,none⟩) n cap) L) (k:Nat) (hk:k≤n):b_ W (.slice (some ⟨b,off+k*9,none⟩) (n-k) (cap-k)) (L.drop k):=by
 obtain ⟨a',cap',e,h1,h2,h3,r⟩:=h;simp only [Value.slice.injEq] at e;obtain ⟨rfl,rfl,rfl⟩:=e;have hl:(L.drop k).length=L.length-k:=by rw [List.length_drop]
 refine ⟨_,_,by rw [hl],ay,ay,(fun h=>by cases h),?_⟩;rcases r with h0 | ⟨b',off',ha,hc⟩;{exact Or.inl ay};{cases ha;refine Or.inr ⟨b,off+k*9,rfl,fun i hi=>?_⟩;have:=hc (k+i) ay;rw [List.getElem_drop,show off+k*9+i*9=off+(k+i)*9 by omega];exact this}
def aY (t:TR):dD:=⟨(t.1.1:Nat),t.1.2.1,t.1.2.2,(t.2.1.1:Nat),t.2.1.2.1,t.2.1.2.2,(t.2.2.1:Nat),t.2.2.2.1,t.2.2.2.2⟩
section
variable {H:Type} {enc:TypeId×Value→H} {W:World} {base:Nat} {v:Value} {d:DataW H} {p:List MemPlace}
theorem aaM {n:Nat} {cs:List Value} {x:DataW H×List MemPlace} (h:DataW.trod enc prog W 0 (fun _=>true) true n 65 cs=some x) (hs:zN 65 x.1) :
  ∃ a:dD,cs=a.cells∧a.low 1000000000000000:=by
 have h9:cs.length=9:=by obtain ⟨_,_,_,_,hx,hl,_⟩:=Go.Deep.trod_struct3 underlying65 h;rw [hl];kernel_rfl
 obtain ⟨c0,c1,c2,c3,c4,c5,c6,c7,c8,rfl⟩:=aaD h9;obtain ⟨y0,y1,y2,n,hx,_,h0,h1,h2⟩:=Go.Deep.trod_struct3 underlying65 h;have g0:DataW.trod enc prog W 0 (fun _=>true) true n 63 [c0,c1,c2]=some y0:=h0;have g1:DataW.trod enc prog W 0 (fun _=>true) true n 63 [c3,c4,c5]=some y1:=h1;have g2:DataW.trod enc prog W 0 (fun _=>true) true n 63 [c6,c7,c8]=some y2:=h2;obtain ⟨k1,t1,x1,rfl,rfl,rfl,f1⟩:=Jh g0;obtain ⟨k2,t2,x2,rfl,rfl,rfl,f2⟩:=Jh g1;obtain ⟨k3,t3,x3,rfl,rfl,rfl,f3⟩:=Jh g2;refine ⟨⟨k1,t1,x1,k2,t2,x2,k3,t3,x3⟩,rfl,?_⟩;obtain ⟨d,p⟩:=x;simp only [Prod.mk.injEq] at hx;have hd:=hx.1;rw [f1,f2,f3] at hd;subst hd;have u1:=underlying65;have u2:=underlying63;unfold zN at hs;simp only [DataW.weights,DataW.weightsEach,u1,u2,List.map_cons,List.map_nil,List.append_nil,List.nil_append,List.mem_append,List.mem_singleton,List.mem_cons,List.not_mem_nil,or_false] at hs;unfold dD.low;unfold reachBytes at hs;refine ⟨?_,?_,?_,?_,?_,?_⟩;{have:=hs t1.length aH;simp only;omega};{have:=hs x1.length aH;simp only;omega};{have:=hs t2.length aH;simp only;omega};{have:=hs x2.length aH;simp only;omega};{have:=hs t3.length aH;simp only;omega};{have:=hs x3.length aH;simp only;omega}
theorem aaN (hv:Value.okWide prog W .any base 22 v) (h:DataW.Trod enc prog W 0 (fun _=>true) true 22 v d p) (hs:zN 22 d) :
  ∃ L:List dD,b_ W v L∧(∀ t∈L,t.low 1000000000000000)∧L.length≤140737488351232:=by obtain ⟨fuel,hx⟩:=V6 underlying22 hv h;rcases Go.Deep.open_slice underlying22 hx with ⟨hcs,_⟩ | ⟨a,len,cap,m,n,D,Pl,hcs,_,hl,hm,hmm,hx0,hxe⟩;{simp only [List.cons.injEq,and_true] at hcs;subst hcs;exact ⟨[],b_.nil W,(fun s hs=>by cases hs),aH⟩};{simp only [List.cons.injEq,and_true] at hcs;subst hcs;simp only [if_true] at hmm;subst hmm;obtain ⟨rfl,_⟩:=Prod.mk.inj hx0;have Qm:prog.cellsOf 65=9:=aF;have hbytes:prog.bytesOf 65=120:=aF;have hw:len*120≤reachBytes:=(by have h1:(len+(m-len))*prog.bytesOf 65≤reachBytes:=hs _ (by show _∈DataW.weights prog 22 (DataW.slice _ _);simp [DataW.weights,underlying22]);rw [hbytes] at h1;omega);have hsz:∀ i,i<len→zN 65 (D i):=fun i hi k hk=>hs k (by show _∈DataW.weights prog 22 (DataW.slice _ _);simp only [DataW.weights,underlying22,List.mem_cons,List.mem_append];exact Or.inr (Or.inl (V3 hk (List.mem_map.2 ⟨i,by simpa using hi,rfl⟩))));rw [Qm] at hxe;obtain ⟨L,hL,hp⟩:=V5 (default:dD) len (fun i t=>(∀ c,c<9→W.cell? ((a.add (i*9)).add c)=t.cells[c]?)∧t.low 1000000000000000) (fun i hi=>by obtain ⟨cs,h1,h2⟩:=hxe i ay;obtain ⟨t,rfl,hf⟩:=aaM h2 (hsz i hi);obtain ⟨_,_,hc⟩:=World.cells?_some h1;exact ⟨t,fun c hc'=>by rw [hc c hc'],hf⟩);have hget:∀ i (hi:i<L.length),L.getD i (default:dD)=L[i]:=fun i hi=>(by rw [List.getD,List.getElem?_eq_getElem hi];rfl);refine ⟨L,⟨some a,m,by rw [hL],ay,hm,(fun h=>by cases h),?_⟩,fun s hs=>?_,by unfold reachBytes at hw;omega⟩;{rcases Nat.eq_zero_or_pos len with h0 | h0;{exact Or.inl ay};{have h00:=(hp 0 h0).1 0 ay;have hsp:a.spot=none:=(by have h1:W.cell? ((a.add (0*9)).add 0)=some (.int .i64 (L.getD 0 default).k1):=h00;have:=VU h1;simpa [Addr.add] using this);refine Or.inr ⟨a.block,a.off,by cases a;simp at hsp;rw [hsp],fun i hi c hc=>?_⟩;have h1:=(hp i ay).1 c hc;rw [hget i hi] at h1;have e:a.add (i*9)=⟨a.block,a.off+i*9,none⟩:=(by cases a;simp at hsp;subst hsp;simp [Addr.add]);rw [e,lG rfl] at h1;exact h1}};{obtain ⟨i,hi,rfl⟩:=List.getElem_of_mem hs;have:=(hp i ay).2;rwa [hget i hi] at this}}
end
end Go.Proofs.YtockbaekcbeenaaGreatDoor
namespace Go.Proofs.YtockbaekcbeenaaGreatDoor.Tm
open Go Go.RowKit
theorem Qn (e:UInt8) (lit:Bool) (s r:T) (h:∀ c∈s,c≠e∧c≠92∧c≠10∧c≠13):dG e lit (s++e::r)=some (s,r):=by unfold dG;exact Dm e lit s r _ aH h
theorem Jj (s r:T):dG 34 true (bL s++34::r)=some (s,r):=by unfold dG;have hl:=(n_ s).1;exact zT s r _ (by simp;omega)
theorem Jk {p:UInt8→Bool}:∀ {l:T} (c:UInt8) (r:T),(∀ d∈l,p d=true)→p c=false→(l++c::r).takeWhile p=l∧(l++c::r).dropWhile p=c::r
 | [],c,r,_,hc=>by simp [hc]
 | d::l,c,r,h,hc=>by
  have hd:=h d aH
  have ih:=Jk (p:=p) (l:=l) c r (fun e he=>h e (by simp [he])) hc
  simp [hd,ih.1,ih.2]
theorem aaO {n:Nat} {t x:T} (r:T) (h:Tm.is (n:Int) t x=true):dY (aO n t x++32::r)=some (n,t,x,32::r):=by rcases yj h with ⟨rfl,rfl,h1⟩ | ⟨rfl,rfl,h1⟩ | ⟨rfl,rfl,h1⟩ | ⟨rfl,h1,h2⟩ | ⟨rfl,h1,h2⟩;{have e:aO 1 t []++32::r=60::(t++62::(32::r)):=(by simp [aO]);rw [e,Et,Qn 62 false t (32::r) (xS h1)];rfl};{have e:aO 2 t []++32::r=95::58::(t++32::r):=(by simp [aO]);obtain ⟨a,b⟩:=Jk (p:=eu) (l:=t) 32 r (AJ h1).2.2 aL;rw [e,Jd,a,b]};{have e:aO 3 t []++32::r=34::(bL t++34::(32::r)):=(by simp [aO]);rw [e,yh];unfold gy;rw [Jj];show (if (32::r:T).headD 0=64 then _ else if (32::r:T).take 3=[94,94,60] then _ else _)=_;rw [if_neg aH,if_neg aH]};{have e:aO 4 t x++32::r=34::(bL t++34::(64::(x++32::r))):=(by simp [aO]);have hb:=xQ x false 0 (by unfold lang at h1;simp at h1;exact h1.1);obtain ⟨a,b⟩:=Jk (p:=f_) (l:=x) 32 r (fun c hc=>Ng (hb c hc)) aL;rw [e,yh];unfold gy;rw [Jj];show (if (64::(x++32::r):T).headD 0=64 then some (4,t,((x++32::r).takeWhile f_).map lower,(x++32::r).dropWhile f_) else _)=_;rw [if_pos aH,a,b,Nh hb]};{have e:aO 5 t x++32::r=34::(bL t++34::(94::94::60::(x++62::(32::r)))):=(by simp [aO]);rw [e,yh];unfold gy;rw [Jj];show (if (94::94::60::(x++62::(32::r)):T).headD 0=64 then _ else if (94::94::60::(x++62::(32::r)):T).take 3=[94,94,60] then (dG 62 false (x++62::(32::r))).map (fun q:T×T=>((5:Nat),t,q.1,q.2)) else _)=_;rw [if_neg aH,if_pos aH,Qn 62 false x (32::r) (xS h1)];rfl}
theorem Qo {n:Nat} {t x:T} (h:Tm.is (n:Int) t x=true):∃ (c:UInt8) (r:T),aO n t x=c::r∧(c=60∨c=95∨c=34):=by rcases yj h with ⟨rfl,rfl,h1⟩ | ⟨rfl,rfl,h1⟩ | ⟨rfl,rfl,h1⟩ | ⟨rfl,h1,h2⟩ | ⟨rfl,h1,h2⟩;{exact ⟨60,_,rfl,.inl rfl⟩};{exact ⟨95,_,rfl,.inr (.inl rfl)⟩};{exact ⟨34,_,rfl,.inr (.inr rfl)⟩};{exact ⟨34,_,rfl,.inr (.inr rfl)⟩};{exact ⟨34,_,rfl,.inr (.inr rfl)⟩}
theorem Jl {n:Nat} {t x:T} (r:T) (h:Tm.is (n:Int) t x=true):(aO n t x++r).dropWhile dU=aO n t x++r:=by obtain ⟨c,u,e,hc⟩:=Qo h;rw [e,List.cons_append,List.dropWhile_cons];rw [show dU c=false by rcases hc with rfl | rfl | rfl <;> rfl];rfl
theorem Jm {n:Nat} {t x:T} (r:T) (h:Tm.is (n:Int) t x=true):rt (aO n t x++32::r)=some ((n,t,x),r.dropWhile dU):=by unfold rt;rw [aaO r h];simp only [List.dropWhile_cons];rw [show dU 32=true from rfl];rfl
theorem aaP:∀ k:Fin 256,(esc (UInt8.ofNat k.val)).all (· != 10)=true:=aL
theorem aaQ (c:UInt8):∀ d∈esc c,d≠10:=by intro d hd;have h:=aaP ⟨c.toNat,c.toNat_lt⟩;simp only [UInt8.ofNat_toNat,List.all_eq_true] at h;simpa using h d hd
theorem EF:∀ (s:T),∀ d∈bL s,d≠10
 | [],d,h=>by simp [bL] at h
 | c::s,d,h=>by
  rw [zR,List.mem_append] at h
  rcases h with h | h
  · exact aaQ c d h
  · exact EF s d h
theorem aaR {c:UInt8} (h:eu c=true):c≠10:=by rintro rfl;exact absurd h aL
theorem Jo {n:Nat} {t x:T} (h:Tm.is (n:Int) t x=true):∀ d∈aO n t x,d≠10:=by rcases yj h with ⟨rfl,rfl,h1⟩ | ⟨rfl,rfl,h1⟩ | ⟨rfl,rfl,h1⟩ | ⟨rfl,h1,h2⟩ | ⟨rfl,h1,h2⟩;{have hs:=xS h1;intro d hd;have hd:d∈60::(t++[62]):=hd;simp only [List.mem_cons,List.mem_append,List.not_mem_nil,or_false] at hd;rcases hd with rfl | hd | rfl;{decide};{exact (hs d hd).2.2.1};{decide}};{intro d hd;have hd:d∈95::58::t:=hd;simp only [List.mem_cons] at hd;rcases hd with rfl | rfl | hd;{decide};{decide};{exact aaR ((AJ h1).2.2 d hd)}};{intro d hd;have hd:d∈34::(bL t++[34]):=hd;simp only [List.mem_cons,List.mem_append,List.not_mem_nil,or_false] at hd;rcases hd with rfl | hd | rfl;{decide};{exact EF t d hd};{decide}};{have hb:=xQ x false 0 (by unfold lang at h1;simp at h1;exact h1.1);intro d hd;have hd:d∈34::(bL t++34::64::x):=hd;simp only [List.mem_cons,List.mem_append] at hd;rcases hd with rfl | hd | rfl | rfl | hd;{decide};{exact EF t d hd};{decide};{decide};{rintro rfl;exact absurd (hb 10 hd) aL}};{have hs:=xS h1;intro d hd;have hd:d∈34::(bL t++34::94::94::60::(x++[62])):=hd;simp only [List.mem_cons,List.mem_append,List.not_mem_nil,or_false] at hd;rcases hd with rfl | hd | rfl | rfl | rfl | rfl | hd | rfl;{decide};{exact EF t d hd};{decide};{decide};{decide};{decide};{exact (hs d hd).2.2.1};{decide}}
def gN (p:T3×T3×T3):T:=aO p.1.1 p.1.2.1 p.1.2.2++32::(aO p.2.1.1 p.2.1.2.1 p.2.1.2.2++32::(aO p.2.2.1 p.2.2.2.1 p.2.2.2.2++32::[46]))
theorem aaS {p:T3×T3×T3} (h:bf p=true):∀ d∈gN p,d≠10:=by obtain ⟨⟨n1,t1,x1⟩,⟨n2,t2,x2⟩,⟨n3,t3,x3⟩⟩:=p;unfold bf dH at h;simp only [Bool.and_eq_true] at h;obtain ⟨_,⟨h1,h2⟩,h3⟩:=h;intro d hd;unfold gN at hd;simp only [List.mem_cons,List.mem_append,List.not_mem_nil,or_false] at hd;rcases hd with hd | rfl | hd | rfl | hd | rfl | rfl;{exact Jo h1 d hd};{decide};{exact Jo h2 d hd};{decide};{exact Jo h3 d hd};{decide};{decide}
theorem aaT (p:T3×T3×T3):∃ u,gN p=u++[46]:=
 ⟨aO p.1.1 p.1.2.1 p.1.2.2++32::(aO p.2.1.1 p.2.1.2.1 p.2.1.2.2++32::(aO p.2.2.1 p.2.2.2.1 p.2.2.2.2++[32])),by simp [gN]⟩
theorem Qp:∀ (s r:T),(∀ d∈s,d≠10)→Lib.index (s++10::r) [10]=s.length
 | [],r,_=>M8 10 r
 | d::s,r,h=>by
  have ih:=Qp s r (fun e he=>h e (by simp [he]))
  rw [List.cons_append,M7 (h d aH),ih]
  rw [if_neg aH]
  simp
theorem aaU (s r:T) (h:∀ d∈s,d≠10):Lib.cut (s++10::r) [10]=(s,r,true):=by unfold Lib.cut;rw [Qp s r h,if_pos ay];simp
theorem aaV (u:T):Lib.trimSuffix (u++[46]) [13]=u++[46]:=by unfold Lib.trimSuffix;rw [if_neg];simp [Lib.hasSuffix]
theorem aaW {p:T3×T3×T3} (h:bf p=true):one (gN p)=some (some p):=by
 obtain ⟨⟨n1,t1,x1⟩,⟨n2,t2,x2⟩,⟨n3,t3,x3⟩⟩:=p;have h':=h;unfold bf dH at h';simp only [Bool.and_eq_true] at h';obtain ⟨_,⟨h1,h2⟩,h3⟩:=h';have hv:Lib.validD (gN ((n1,t1,x1),(n2,t2,x2),(n3,t3,x3)))=true:=by unfold gN;exact tX (Jg h1) (kR aL (tX (Jg h2) (kR aL (tX (Jg h3) (kR aL (kR aL rfl))))))
 have hd:(gN ((n1,t1,x1),(n2,t2,x2),(n3,t3,x3))).dropWhile dU=gN ((n1,t1,x1),(n2,t2,x2),(n3,t3,x3)):=Jl _ h1;unfold one;rw [if_neg (by rw [hv];decide),hd,if_neg];{unfold oG;have e1:rt (gN ((n1,t1,x1),(n2,t2,x2),(n3,t3,x3)))=some ((n1,t1,x1),aO n2 t2 x2++32::(aO n3 t3 x3++32::[46])):=(by unfold gN;rw [Jm _ h1,Jl _ h2]);have e2:rt (aO n2 t2 x2++32::(aO n3 t3 x3++32::[46]))=some ((n2,t2,x2),aO n3 t3 x3++32::[46]):=(by rw [Jm _ h2,Jl _ h3]);have e3:rt (aO n3 t3 x3++32::[46])=some ((n3,t3,x3),[46]):=(by rw [Jm _ h3];rfl);rw [e1];simp only;rw [e2];simp only;rw [e3];simp only;rw [show point [46]=some [] from rfl];simp only;rw [if_pos ⟨rfl,h⟩]};{obtain ⟨c,u,e,hc⟩:=Qo h1;unfold gN bZ;simp only;rw [e,List.cons_append];rcases hc with rfl | rfl | rfl <;> simp}
def gP (s:T):T×T:=if (Lib.cut s [10]).2.2=true then (Lib.trimSuffix (Lib.cut s [10]).1 [13],(Lib.cut s [10]).2.1) else ((Lib.cut s [10]).1,(Lib.cut s [10]).2.1)
theorem Jp {s:T} (h:s≠[]):(gP s).2.length<s.length:=by
 have hl:0<s.length:=by cases s with
  | nil=>exact absurd rfl h
  | cons _ _=>simp
 unfold gP Lib.cut;split;{simp only [if_true,List.length_drop,List.length_cons,List.length_nil];omega};{simp only;exact hl}
theorem aaX (s:T):(gP s).1.length≤s.length:=by
 have h1:(Lib.cut s [10]).1.length≤s.length:=by unfold Lib.cut;split;{simp only [List.length_take];omega};{exact Nat.le_refl _}
 have h2:∀ a:T,(Lib.trimSuffix a [13]).length≤a.length:=by intro a;unfold Lib.trimSuffix;split;{simp only [List.length_take];omega};{exact Nat.le_refl _}
 unfold gP;split;{exact Nat.le_trans (h2 _) h1};{exact h1}
def pl:Nat→T→Nat→List (T3×T3×T3)→Nat×Nat×List (T3×T3×T3)
 | 0,_,n,l=>(0,n,l)
 | f+1,s,n,l=>if s=[] then (0,n,l) else if 200<n+1 then (3,n+1,[]) else match one (gP s).1 with
  | none=>(2,n+1,[])
  | some none=>pl f (gP s).2 (n+1) l
  | some (some t)=>if t∈l then pl f (gP s).2 (n+1) l else if l.length=100 then (3,n+1,[]) else pl f (gP s).2 (n+1) (l++[t])
theorem EG:∀ (f g:Nat) (s:T) (n:Nat) (l:List (T3×T3×T3)),s.length<f→s.length<g→pl f s n l=pl g s n l
 | 0,g,s,n,l,h,_=>ay
 | f+1,0,s,n,l,_,h=>ay
 | f+1,g+1,s,n,l,hf,hg=>by
  unfold pl
  by_cases h:s=[]
  · rw [if_pos h,if_pos h]
  · have hc:=Jp h
    rw [if_neg h,if_neg h]
    split
    · rfl
    · cases one (gP s).1 with
      | none=>rfl
      | some o=>
       cases o with
       | none=>exact EG f g _ _ _ ay ay
       | some t=>
        simp only
        split
        · exact EG f g _ _ _ ay ay
        · split
          · rfl
          · exact EG f g _ _ _ ay ay
def iW (s:T) (n:Nat) (l:List (T3×T3×T3)):Nat×Nat×List (T3×T3×T3):=pl (s.length+1) s n l
theorem aaY (n:Nat) (l:List (T3×T3×T3)):iW [] n l=(0,n,l):=rfl
theorem Qq {s:T} (h:s≠[]) (n:Nat) (l:List (T3×T3×T3)):iW s n l=if 200<n+1 then (3,n+1,[]) else match one (gP s).1 with
  | none=>(2,n+1,[])
  | some none=>iW (gP s).2 (n+1) l
  | some (some t)=>if t∈l then iW (gP s).2 (n+1) l else if l.length=100 then (3,n+1,[]) else iW (gP s).2 (n+1) (l++[t]):=by have hc:=Jp h;have e:∀ m k,pl s.length (gP s).2 m k=iW (gP s).2 m k:=fun m k=>EG _ _ _ _ _ hc ay;unfold iW;rw [pl,if_neg h];simp only [e];rfl
def kT (a1 a2 a3 b1 b2 b3:T):Int:=if cmp a1 b1=0 then (if cmp a2 b2=0 then cmp a3 b3 else cmp a2 b2) else cmp a1 b1
theorem aaZ (a1 a2 a3 b1 b2 b3:T):kT b1 b2 b3 a1 a2 a3 = - kT a1 a2 a3 b1 b2 b3:=by
 unfold kT;rw [j_ a1 b1,j_ a2 b2,j_ a3 b3];repeat' split
 all_goals omega
theorem aa0 (a1 a2 a3 b1 b2 b3:T):kT a1 a2 a3 b1 b2 b3=0↔(a1=b1∧a2=b2∧a3=b3):=by
 rw [←nZ,←nZ,←nZ];unfold kT;repeat' split
 all_goals omega
theorem Qr {a b c:T} (h1:cmp a b<0) (h2:cmp b c≤0):cmp a c<0:=by have h:=zQ (a:=a) (b:=b) (c:=c) ay h2;rcases (show cmp a c=0∨cmp a c<0 by omega) with h0 | h0;{rw [nZ.1 h0] at h1;have:=j_ b c;omega};{exact h0}
theorem aa1 {a1 a2 a3 b1 b2 b3 c1 c2 c3:T} (h1:kT a1 a2 a3 b1 b2 b3≤0) (h2:kT b1 b2 b3 c1 c2 c3≤0):kT a1 a2 a3 c1 c2 c3≤0:=by unfold kT at *;by_cases e1:cmp a1 b1=0;{rw [if_pos e1] at h1;obtain rfl:=nZ.1 e1;by_cases e2:cmp a1 c1=0;{rw [if_pos e2] at h2 ⊢;by_cases e3:cmp a2 b2=0;{rw [if_pos e3] at h1;obtain rfl:=nZ.1 e3;by_cases e4:cmp a2 c2=0;{rw [if_pos e4] at h2 ⊢;exact zQ h1 h2};{rw [if_neg e4] at h2 ⊢;exact h2}};{rw [if_neg e3] at h1;by_cases e4:cmp b2 c2=0;{obtain rfl:=nZ.1 e4;rw [if_neg e3];exact h1};{rw [if_neg e4] at h2;have:=Qr (show cmp a2 b2<0 by omega) h2;rw [if_neg ay];omega}}};{rw [if_neg e2] at h2 ⊢;exact h2}};{rw [if_neg e1] at h1;by_cases e2:cmp b1 c1=0;{obtain rfl:=nZ.1 e2;rw [if_neg e1];exact h1};{rw [if_neg e2] at h2;have:=Qr (show cmp a1 b1<0 by omega) h2;rw [if_neg ay];omega}}
abbrev TT:=T3×T3×T3
theorem aa2 {p:TT} (h:bf p=true) (r:T):gP (gN p++10::r)=(gN p,r):=by unfold gP;rw [aaU (gN p) r (aaS h)];simp only [if_true];obtain ⟨u,hu⟩:=aaT p;rw [hu,aaV]
def jv (l:List TT):T:=l.flatMap fun p=>gN p++[10]
theorem Qs (p:TT) (l:List TT):jv (p::l)=gN p++10::jv l:=by simp [jv]
theorem aa3 (l:List TT) (p:TT):jv (l++[p])=jv l++(gN p++[10]):=by simp [jv]
def jw (a:List TT) (t:TT):List TT:=if t∈a then a else a++[t]
def iE (a l:List TT):List TT:=l.foldl jw a
theorem Qt (a:List TT) (t:TT):(jw a t).length≤a.length+1:=by unfold jw;split;{omega};{simp}
theorem aa4 (a:List TT) (t x:TT):x∈jw a t↔x∈a∨x=t:=by unfold jw;split;{rename_i h;constructor;{exact Or.inl};{rintro (h1 | rfl);{exact h1};{exact h}}};{simp}
theorem AL:∀ (l a:List TT) (x:TT),x∈iE a l↔x∈a∨x∈l
 | [],a,x=>by simp [iE]
 | t::l,a,x=>by
  have ih:=AL l (jw a t) x
  show x∈iE (jw a t) l↔_
  rw [ih,aa4,List.mem_cons]
  constructor
  · rintro ((h | h) | h)
    · exact .inl h
    · exact .inr (.inl h)
    · exact .inr (.inr h)
  · rintro (h | h | h)
    · exact .inl (.inl h)
    · exact .inl (.inr h)
    · exact .inr h
theorem aa5 {p:TT} (h:bf p=true) (r:T) (n:Nat) (acc:List TT) (hn:n+1≤200) (ha:acc.length<100):iW (gN p++10::r) n acc=iW r (n+1) (jw acc p):=by have hne:(gN p++10::r)≠[]:=aH;rw [Qq hne,if_neg ay,aa2 h r,aaW h];simp only;unfold jw;split;{rfl};{rw [if_neg ay]}
theorem Qu:∀ (l:List TT) (r:T) (n:Nat) (acc:List TT),(∀ t∈l,bf t=true)→n+l.length≤200→acc.length+l.length≤100→iW (jv l++r) n acc=iW r (n+l.length) (iE acc l)
 | [],r,n,acc,_,_,_=>rfl
 | p::l,r,n,acc,h,hn,ha=>by
  simp only [List.length_cons] at hn ha
  have hl:=Qt acc p
  rw [Qs,List.append_assoc,List.cons_append,aa5 (h p aH) _ _ _ ay ay]
  rw [Qu l r (n+1) (jw acc p) (fun t ht=>h t (by simp [ht])) ay ay]
  rw [List.length_cons,show n+1+l.length=n+(l.length+1) by omega]
  rfl
def bP (p q:TT):Int:=kT (aO p.1.1 p.1.2.1 p.1.2.2) (aO p.2.1.1 p.2.1.2.1 p.2.1.2.2) (aO p.2.2.1 p.2.2.2.1 p.2.2.2.2) (aO q.1.1 q.1.2.1 q.1.2.2) (aO q.2.1.1 q.2.1.2.1 q.2.1.2.2) (aO q.2.2.1 q.2.2.2.1 q.2.2.2.2)
theorem rR {p:TT} (h:bf p=true):(p.1.1=1∨p.1.1=2)∧p.2.1.1=1∧is (p.1.1:Int) p.1.2.1 p.1.2.2=true∧is (p.2.1.1:Int) p.2.1.2.1 p.2.1.2.2=true∧is (p.2.2.1:Int) p.2.2.2.1 p.2.2.2.2=true:=by unfold bf dH at h;simp only [Bool.and_eq_true,decide_eq_true_eq] at h;exact ⟨h.1.1,h.1.2,h.2.1.1,h.2.1.2,h.2.2⟩
theorem Jq {p q:TT} (hp:bf p=true) (hq:bf q=true):bP p q=0↔p=q:=by obtain ⟨_,_,a1,a2,a3⟩:=rR hp;obtain ⟨_,_,b1,b2,b3⟩:=rR hq;obtain ⟨⟨n1,t1,x1⟩,⟨n2,t2,x2⟩,⟨n3,t3,x3⟩⟩:=p;obtain ⟨⟨m1,u1,y1⟩,⟨m2,u2,y2⟩,⟨m3,u3,y3⟩⟩:=q;unfold bP;rw [aa0];simp only at a1 a2 a3 b1 b2 b3 ⊢;rw [Ez a1 b1,Ez a2 b2,Ez a3 b3];simp only [Prod.mk.injEq]
theorem pG (p q:TT):bP q p = - bP p q:=by unfold bP;exact aaZ _ _ _ _ _ _
theorem Jr {p q r:TT} (h1:bP p q≤0) (h2:bP q r≤0):bP p r≤0:=by unfold bP at *;exact aa1 h1 h2
theorem Js {p q r:TT} (h1:bP p q<0) (h2:bP q r<0):bP p r<0:=by have h:=Jr (Int.le_of_lt h1) (Int.le_of_lt h2);rcases Int.lt_or_eq_of_le h with h3 | h3;{exact h3};{exfalso;have h4:bP r p≤0:=(by rw [pG p r,h3];decide);have h5:=Jr (Int.le_of_lt h2) h4;have:=pG p q;omega}
def fG (l:List TT):Prop:=l.Pairwise fun a b=>bP a b<0
theorem AO:∀ {l m:List TT},fG l→fG m→(∀ t,t∈l↔t∈m)→l=m
 | [],[],_,_,_=>rfl
 | [],b::m,_,_,h=>absurd ((h b).2 aH) aH
 | a::l,[],_,_,h=>absurd ((h a).1 aH) aH
 | a::l,b::m,hl,hm,h=>by
  obtain ⟨h1,h2⟩:=List.pairwise_cons.1 hl
  obtain ⟨k1,k2⟩:=List.pairwise_cons.1 hm
  have hself:∀ t,¬ bP t t<0:=fun t ht=>by have:=pG t t;omega
  have e:a=b:=by
   have ha:=(h a).1 aH
   have hb:=(h b).2 aH
   rcases List.mem_cons.1 ha with e | ha
   · exact e
   · rcases List.mem_cons.1 hb with e | hb
     · exact e.symm
     · exact absurd (Js (k1 a ha) (h1 b hb)) (hself b)
  subst e
  rw [AO h2 k2 fun t=>?_]
  constructor
  · intro ht
    rcases List.mem_cons.1 ((h t).1 (by simp [ht])) with rfl | h3
    · exact absurd (h1 t ht) (hself t)
    · exact h3
  · intro ht
    rcases List.mem_cons.1 ((h t).2 (by simp [ht])) with rfl | h3
    · exact absurd (k1 t ht) (hself t)
    · exact h3
def put (l:List TT) (t:TT):List TT:=if ((l.dropWhile fun a=>decide (bP a t<0)).head?==some t)=true then l else (l.takeWhile fun a=>decide (bP a t<0))++t::l.dropWhile fun a=>decide (bP a t<0)
def eH (l:List TT):List TT:=l.foldl put []
theorem put_mem (l:List TT) (t x:TT):x∈put l t↔x∈l∨x=t:=by
 have e:=List.takeWhile_append_dropWhile (p:=fun a=>decide (bP a t<0)) (l:=l);unfold put;split;{rename_i h;constructor;{exact .inl};{rintro (h1 | rfl);{exact h1};{rw [←e];have:=List.mem_of_mem_head? (Option.mem_def.2 (eq_of_beq h));exact List.mem_append_right _ this}}}
 · conv=>rhs;rw [←e]
   simp only [List.mem_append,List.mem_cons];constructor;{rintro (h1 | h1 | h1);{exact .inl (.inl h1)};{exact .inr h1};{exact .inl (.inr h1)}};{rintro ((h1 | h1) | h1);{exact .inl h1};{exact .inr (.inr h1)};{exact .inr (.inl h1)}}
theorem Jt {l:List TT} {t:TT} (hl:fG l) (hv:∀ a∈l,bf a=true) (ht:bf t=true):fG (put l t):=by
 have e:=List.takeWhile_append_dropWhile (p:=fun a=>decide (bP a t<0)) (l:=l);unfold put;split;{exact hl}
 · rename_i h;have hp:fG (l.takeWhile (fun a=>decide (bP a t<0))++l.dropWhile (fun a=>decide (bP a t<0))):=(by rw [e];exact hl);obtain ⟨p1,p2,p3⟩:=List.pairwise_append.1 hp;have hlo:∀ a∈l.takeWhile (fun a=>decide (bP a t<0)),bP a t<0:=fun a ha=>(by have h1:(l.takeWhile (fun a=>decide (bP a t<0))).all (fun a=>decide (bP a t<0))=true:=List.all_takeWhile;simpa using List.all_eq_true.1 h1 a ha);have hhi:∀ b∈l.dropWhile (fun a=>decide (bP a t<0)),bP t b<0:=by
    obtain ⟨d,hd⟩:=aC (l.dropWhile (fun a=>decide (bP a t<0)));rw [←hd] at h p2 p3 ⊢;cases d with
    | nil=>intro b hb;cases hb
    | cons c d=>have hc:¬ bP c t<0:=(by have:=List.head?_dropWhile_not (fun a=>decide (bP a t<0)) l;rw [←hd] at this;simpa using this);have hcm:c∈l:=(by rw [←e,←hd];simp);have hne:c≠t:=fun e=>h (by rw [e];exact beq_self_eq_true _);have h0:bP c t≠0:=fun h0=>hne ((Jq (hv c hcm) ht).1 h0);have hn:=pG c t;have hct:bP t c<0:=ay;intro b hb;rcases List.mem_cons.1 hb with rfl | hb;{exact hct};{exact Js hct ((List.pairwise_cons.1 p2).1 b hb)}
   refine List.pairwise_append.2 ⟨p1,List.pairwise_cons.2 ⟨hhi,p2⟩,fun a ha b hb=>?_⟩;rcases List.mem_cons.1 hb with rfl | hb;{exact hlo a ha};{exact p3 a ha b hb}
theorem vR:∀ (l a:List TT),fG a→(∀ t∈a,bf t=true)→(∀ t∈l,bf t=true)→fG (l.foldl put a)∧∀ x,x∈l.foldl put a↔x∈a∨x∈l
 | [],a,hs,_,_=>⟨hs,fun x=>aH⟩
 | t::l,a,hs,ha,hl=>by
  obtain ⟨h1,h2⟩:=vR l (put a t) (Jt hs ha (hl t aH)) (fun x hx=>by
   rcases (put_mem a t x).1 hx with h | rfl
   · exact ha x h
   · exact hl x aH) (fun x hx=>hl x (by simp [hx]))
  refine ⟨h1,fun x=>?_⟩
  rw [List.foldl_cons,h2 x,put_mem,List.mem_cons]
  constructor
  · rintro ((h | h) | h)
    · exact .inl h
    · exact .inr (.inl h)
    · exact .inr (.inr h)
  · rintro (h | h | h)
    · exact .inl (.inl h)
    · exact .inl (.inr h)
    · exact .inr h
theorem Ju {l:List TT} (hl:∀ t∈l,bf t=true):fG (eH l):=(vR l [] List.Pairwise.nil aH hl).1
theorem EH {l:List TT} (hl:∀ t∈l,bf t=true) (x:TT):x∈eH l↔x∈l:=by have:=(vR l [] List.Pairwise.nil aH hl).2 x;unfold eH;simpa using this
theorem EI {l:List TT} (hl:∀ t∈l,bf t=true):∀ t∈eH l,bf t=true:=fun t ht=>hl t ((EH hl t).1 ht)
theorem EJ {l m:List TT} (hl:∀ t∈l,bf t=true) (hm:fG m) (h:∀ t,t∈m↔t∈l):m=eH l:=
 AO hm (Ju hl) fun t=>by rw [h,EH hl]
theorem aa6 {l m:List TT} (hl:∀ t∈l,bf t=true) (h:∀ t,t∈m↔t∈l):eH m=eH l:=
 EJ hl (Ju fun t ht=>hl t ((h t).1 ht)) fun t=>by rw [EH (fun t ht=>hl t ((h t).1 ht)),h]
theorem aa7 {l:List TT} (hl:∀ t∈l,bf t=true):eH (iE [] l)=eH l:=aa6 hl fun t=>by simp [AL]
theorem AQ (l:List TT) (t:TT):(put l t).length≤l.length+1:=by have e:=congrArg List.length (List.takeWhile_append_dropWhile (p:=fun a=>decide (bP a t<0)) (l:=l));unfold put;split;{omega};{simp only [List.length_append,List.length_cons] at *;omega}
theorem AU:∀ (l a:List TT),(l.foldl put a).length≤a.length+l.length
 | [],a=>aH
 | t::l,a=>by
  have:=AU l (put a t)
  have h:=AQ a t
  rw [List.foldl_cons,List.length_cons];omega
theorem EK (l:List TT):(eH l).length≤l.length:=by have:=AU l [];simpa [eH] using this
end Go.Proofs.YtockbaekcbeenaaGreatDoor.Tm
namespace Go.Proofs.YtockbaekcbeenaaGreatDoor
open Go.Proofs.Tryz
open Go.ChangeShapes Go.WideShapes Go.ChangeAt Go.RowKit
def oH:List UInt8:=[34,92,10,13,9,8,12]
def tY:List UInt8:=[34,92,110,114,116,98,102]
theorem aa8:∀ k:Fin 7,Tm.esc (oH.getD k.val 0)=[92,tY.getD k.val 0]:=aL
theorem aa9 {c:UInt8} (h:∀ j,j<7→oH.getD j 0≠c):vO c:=by have e:∀ j,j<7→c.toNat≠(oH.getD j 0).toNat:=fun j hj he=>h j hj (UInt8.toNat_inj.1 he.symm);exact ⟨e 0 ay,e 1 ay,e 2 ay,e 3 ay,e 4 ay,e 5 ay,e 6 ay⟩
theorem Qv (k:Nat) (h:k<16):(⟨#[48,49,50,51,52,53,54,55,56,57,65,66,67,68,69,70]⟩:ByteArray).extract k (k+1)=⟨#[Tm.gU k]⟩:=by
 have:∀ k:Fin 16,((⟨#[48,49,50,51,52,53,54,55,56,57,65,66,67,68,69,70]⟩:ByteArray).extract k.val (k.val+1)).data.toList=[Tm.gU k.val]:=by decide +kernel
 apply ByteArray.ext;apply Array.ext';exact this ⟨k,h⟩
theorem aa_ (s:List UInt8) (w:World) (hl:s.length≤1000000000) :
  Calls prog 76 #[aA s] w fun e w'=>e=.returned (aA (Tm.bL s))∧∃ q,w'=w.drewN q:=by
 go_enter func76,ntmps76;go_wp2;go_loopw [6,7,8,9] (fun s6 s7 _ _ wr=>∃ i:Nat,i≤s.length∧s7=.int .i64 i∧s6=aA (Tm.bL (s.take i))∧Hid (∃ q,wr=w.drewN q)) (fun _ s7 _ _ _=>s.length-(intOf s7).toNat)
 case atStart=>exact ⟨0,ay,rfl,rfl,0,rfl⟩
 case round=>
  obtain ⟨i,hi,rfl,rfl,HQ⟩:=hrel;obtain ⟨q0,hq0⟩:=HQ.out;subst hq0;clear HQ;have hle:=Tm.n_ (s.take i);rw [List.length_take] at hle;by_cases hlt:i<s.length
  · obtain ⟨c,hc⟩:∃ c,s[i]?=some c:=⟨_,List.getElem?_eq_getElem hlt⟩;have hcc:=fun q=>nY s i c hc q;have HS:=aj (Py s i c hc);have ahx:(⟨s.toArray⟩:ByteArray).extract i (i+1)=⟨[c].toArray⟩:=(by rw [u_,show i+1-i=1 by omega];obtain ⟨hl2,e2⟩:=List.getElem?_eq_some_iff.1 hc;rw [List.drop_eq_getElem_cons hl2,e2];rfl);obtain ⟨out,hout⟩:=aC (Tm.bL (s.take i));have HO:=aj hout;rw [←hout] at hle HS ⊢;have hol:out.length≤6000000000:=ay;have hc256:c.toNat<256:=c.toNat_lt;clear hc hout hle;obtain ⟨W,hW⟩:=aC (w.drewN q0);have HW:=aj hW;rw [←hW];clear hW;go_wp2;go_loop [9] (fun s9=>∃ k:Nat,k≤7∧s9=.int .i64 k∧Hid (∀ j,j<k→oH.getD j 0≠c)) (fun s9=>7-(intOf s9).toNat)
    (case atStart=>exact ⟨0,ay,rfl,fun j hj=>ay⟩);case round=>
     obtain ⟨k,hk,rfl,HN⟩:=hrel;by_cases Jv:k<7
     · have g1:oH[k]?=some (oH.getD k 0):=(by have:k<oH.length:=Jv;simp [List.getD,this]);have g2:tY[k]?=some (tY.getD k 0):=(by have:k<tY.length:=Jv;simp [List.getD,this]);have Qw:=fun q=>nY oH k _ g1 q;have ht2:(⟨tY.toArray⟩:ByteArray).extract k (k+1)=⟨[tY.getD k 0].toArray⟩:=(by rw [u_,show k+1-k=1 by omega];obtain ⟨hl2,e2⟩:=List.getElem?_eq_some_iff.1 g2;rw [List.drop_eq_getElem_cons hl2,e2];rfl);have HD:=aj (aa8 ⟨k,Jv⟩);have EL:=aj (show oH.getD k 0≠c→∀ j,j<k+1→oH.getD j 0≠c from fun hne j hj=>by
        by_cases he:j=k;{rw [he];exact hne}
        · exact HN.out j ay)
       obtain ⟨d,hd⟩:=aC (oH.getD k 0);obtain ⟨f,hf⟩:=aC (tY.getD k 0);simp only at HD;rw [←hd] at Qw EL HD;rw [←hf] at ht2 HD;unfold oH at Qw;unfold tY at ht2;have hkz:(k:Int)<7:=ay;have hk0:(0:Int)≤(k:Int):=ay;clear hd hf g1 g2 HN;by_cases hcd:d=c
       · subst hcd;have be:((d.toNat:Int) != (d.toNat:Int))=false:=aH;have HF:=aj (show Tm.bL (s.take (i+1))=out++[92,f] by rw [HS.out,HD.out]);have ha1:(⟨out.toArray⟩++⟨#[92]⟩:ByteArray)=⟨(out++[92]).toArray⟩:=gV out [92];have ha2:(⟨(out++[92]).toArray⟩++⟨[f].toArray⟩:ByteArray)=⟨(out++[92]++[f]).toArray⟩:=gV _ _;clear HS;go_wp2;go_roundw
         (case rel=>exact ⟨i+1,ay,aN,by rw [HF.out] <;> simp [gV],q0,HW.out⟩);case measure=>simp [intOf];omega
       · have be:((d.toNat:Int) != (c.toNat:Int))=true:=(by rw [bne_iff_ne];intro e;exact hcd (UInt8.toNat_inj.1 ay));have HNY:=aj (EL.out hcd);clear hcd;go_wp2;go_round
         (case rel=>exact ⟨k+1,ay,aN,HNY⟩);case measure=>simp [intOf];omega
     · obtain rfl:k=7:=ay;have hnf:=aa9 HN.out;clear HN;by_cases hlo:c.toNat<32∨c.toNat=127
       · have HF:=aj (show Tm.bL (s.take (i+1))=out++[92,117,48,48,Tm.gU (c.toNat / 16),Tm.gU (c.toNat % 16)] by rw [HS.out,Pv c hnf hlo]);have hand:bits BinOp.and IntKind.u8 (c.toNat:Int) 15=((c.toNat % 16:Nat):Int):=(by have:=u8_and_nat c.toNat 15 ay ay;rw [show (15:Int)=((15:Nat):Int) from rfl,this,show c.toNat &&& 15=c.toNat % 16 from Nat.and_two_pow_sub_one_eq_mod c.toNat 4]);have hsh:(c.toNat:Int) / 16=((c.toNat / 16:Nat):Int):=ay;have hq:c.toNat / 16<16:=ay;have hr:c.toNat % 16<16:=ay;obtain ⟨k1,hk1⟩:=aC (c.toNat / 16);obtain ⟨k2,hk2⟩:=aC (c.toNat % 16);rw [←hk1] at hsh hq HF;rw [←hk2] at hand hr HF;have hx1:=Qv k1 hq;have hx2:=Qv k2 hr;have hqz:(k1:Int)<16:=ay;have hrz:(k2:Int)<16:=ay;have ZP:(0:Int)≤(k1:Int):=ay;have ZQ:(0:Int)≤(k2:Int):=ay;have hwq:IntKind.u8.wrap ((k1:Int)+1)=(k1:Int)+1:=(by rw [IntKind.wrap_u8'];omega);have hwr:IntKind.u8.wrap ((k2:Int)+1)=(k2:Int)+1:=(by rw [IntKind.wrap_u8'];omega);have ha1:(⟨out.toArray⟩++⟨#[92,117,48,48]⟩:ByteArray)=⟨(out++[92,117,48,48]).toArray⟩:=gV out _;have ha2:(⟨(out++[92,117,48,48]).toArray⟩++⟨#[Tm.gU k1]⟩:ByteArray)=⟨(out++[92,117,48,48]++[Tm.gU k1]).toArray⟩:=gV _ _;have ha3:(⟨(out++[92,117,48,48]++[Tm.gU k1]).toArray⟩++⟨#[Tm.gU k2]⟩:ByteArray)=⟨(out++[92,117,48,48]++[Tm.gU k1]++[Tm.gU k2]).toArray⟩:=gV _ _;clear hk1 hk2 HS hnf;rcases hlo with hlo | hlo
         · have b1:decide ((c.toNat:Int)<32)=true:=(by simp;omega);go_wp2;(go_quiet (fail));go_wp2;go_roundw
           (case rel=>exact ⟨i+1,ay,aN,by rw [HF.out] <;> simp [gV],q0+nq,by rw [HW.out,World.drewN_drewN]⟩);case measure=>simp [intOf];omega
         · have b1:((c.toNat:Int)==127)=true:=beq_iff_eq.2 ay;have h32:32≤c.toNat:=ay;clear hlo;go_wp2;(go_quiet (fail));go_wp2;go_roundw
           (case rel=>exact ⟨i+1,ay,aN,by rw [HF.out] <;> simp [gV],q0+nq,by rw [HW.out,World.drewN_drewN]⟩);case measure=>simp [intOf];omega
       · have HF:=aj (show Tm.bL (s.take (i+1))=out++[c] by rw [HS.out,Pw c hnf ay]);have b1:((c.toNat:Int)==127)=false:=beq_eq_false_iff_ne.2 ay;have h32:32≤c.toNat:=ay;have ha1:(⟨out.toArray⟩++⟨[c].toArray⟩:ByteArray)=⟨(out++[c]).toArray⟩:=gV out _;clear HS hnf hlo;go_wp2;go_roundw
         (case rel=>exact ⟨i+1,ay,aN,by rw [HF.out],q0,HW.out⟩);case measure=>simp [intOf];omega
  {obtain rfl:i=s.length:=ay;have HF:=aj (show Tm.bL (s.take s.length)=Tm.bL s by rw [List.take_length]);go_wp2;go_ret;exact ⟨by rw [←HF.out];rfl,q0,rfl⟩}
theorem yw (k:Nat) (t x:List UInt8) (W:World) (hk:1≤k∧k≤5) (ht:t.length≤1000000000) (hx:x.length≤1000000000) :
  Calls prog 48 #[dV (k:Nat) t x] W fun e W'=>e=.returned (aA (Tm.aO k t x))∧Below W.heap.size W W':=by have ES:=aj (fun w=>aa_ t w ht);have hle:=Tm.n_ t;obtain ⟨z,hz⟩:=aC (Tm.bL t);have HZ:=aj hz;rw [←hz] at ES hle;have hzl:z.length≤6000000000:=ay;clear hz hle;rcases (show k=1∨k=2∨k=3∨k=4∨k=5 by omega) with rfl | rfl | rfl | rfl | rfl;{go_enter func48,ntmps48;go_wp2;go_ret;exact ⟨by simp [Tm.aO,gV],(Below.refl _ _).alloc aG _⟩};{go_enter func48,ntmps48;go_wp2;go_ret;exact ⟨by simp [Tm.aO,gV],(Below.refl _ _).alloc aG _⟩};{go_enter func48,ntmps48;(go_wp2_with (go_at_call 76;refine (ES.out _).mono ?_;rintro e w' ⟨rfl,q,rfl⟩));go_ret;exact ⟨by rw [show Tm.aO 3 t x=34::(Tm.bL t++[34]) from rfl,←HZ.out];simp [gV],bV ((Below.refl _ _).alloc aG _) q⟩};{go_enter func48,ntmps48;(go_wp2_with (go_at_call 76;refine (ES.out _).mono ?_;rintro e w' ⟨rfl,q,rfl⟩));go_ret;exact ⟨by rw [show Tm.aO 4 t x=34::(Tm.bL t++34::64::x) from rfl,←HZ.out];simp [gV],bV ((Below.refl _ _).alloc aG _) q⟩};{go_enter func48,ntmps48;(go_wp2_with (go_at_call 76;refine (ES.out _).mono ?_;rintro e w' ⟨rfl,q,rfl⟩));go_ret;exact ⟨by rw [show Tm.aO 5 t x=34::(Tm.bL t++34::94::94::60::(x++[62])) from rfl,←HZ.out];simp [gV],bV ((Below.refl _ _).alloc aG _) q⟩}
theorem Qx (a:List UInt8) (w:World):Calls prog 167 #[aA a] w fun e w'=>e=.returned (.bool false)∧w'=w:=by have h:(a != a)=false:=aH;go_enter func167,ntmps167;go_wp2;go_ret;exact ⟨rfl,rfl⟩
theorem abb (a b:List UInt8) (w:World):Calls prog 131 #[aA a,aA b] w fun e w'=>e=.returned (.int .i64 (Tm.cmp a b))∧w'=w:=by
 have N1:=aj fun w=>Qx a w;have N2:=aj fun w=>Qx b w;go_enter func131,ntmps131;go_wp2_with fail
 refine (N1.out _).mono ?_;rintro e w' ⟨rfl,rfl⟩;go_wp2_with fail
 refine (N2.out _).mono ?_;rintro e w' ⟨rfl,rfl⟩;rcases (show (Tm.lt a b=true)∨(Tm.lt a b=false∧Tm.lt b a=true)∨(Tm.lt a b=false∧Tm.lt b a=false) by cases Tm.lt a b <;> cases Tm.lt b a <;> simp) with h | ⟨h,h'⟩ | ⟨h,h'⟩;{have HC:=aj (show Tm.cmp a b = -1 by unfold Tm.cmp;rw [h];rfl);go_wp2;go_ret;exact ⟨by rw [HC.out];rfl,rfl⟩};{have HC:=aj (show Tm.cmp a b=1 by unfold Tm.cmp;rw [h,h'];rfl);have he:(a==b)=false:=beq_eq_false_iff_ne.2 (fun e=>by rw [e,Tm.lt_irrefl] at h';cases h');go_wp2;go_ret;exact ⟨by rw [HC.out];rfl,rfl⟩};{have HC:=aj (show Tm.cmp a b=0 by unfold Tm.cmp;rw [h,h'];rfl);have he:(a==b)=true:=beq_iff_eq.2 (Tm.zP h h');go_wp2;go_ret;exact ⟨by rw [HC.out];rfl,rfl⟩}
theorem abd (p q:Nat) (a1 a2 a3 b1 b2 b3:List UInt8) (w:World) (hp:aB w p [aA a1,aA a2,aA a3] 9) (hq:aB w q [aA b1,aA b2,aA b3] 9) :
  Calls prog 105 #[.slice (some ⟨p,0,none⟩) 3 3,.slice (some ⟨q,0,none⟩) 3 3] w fun e w'=>e=.returned (.int .i64 (Tm.kT a1 a2 a3 b1 b2 b3))∧w'=w:=by
 have C:=aj fun a b w=>abb a b w;obtain ⟨p0,p1,p2⟩:=bO hp;obtain ⟨q0,q1,q2⟩:=bO hq;obtain ⟨R,hR⟩:=aC (Tm.kT a1 a2 a3 b1 b2 b3);rw [←hR];have HR:=aj (show R=if Tm.cmp a1 b1=0 then (if Tm.cmp a2 b2=0 then Tm.cmp a3 b3 else Tm.cmp a2 b2) else Tm.cmp a1 b1 from hR);have K1:=aj fun w=>C.out a1 b1 w;have K2:=aj fun w=>C.out a2 b2 w;have K3:=aj fun w=>C.out a3 b3 w;obtain ⟨c1,h1⟩:=aC (Tm.cmp a1 b1);obtain ⟨c2,h2⟩:=aC (Tm.cmp a2 b2);obtain ⟨c3,h3⟩:=aC (Tm.cmp a3 b3);rw [←h1] at HR K1;rw [←h2] at HR K2;rw [←h3] at HR K3;clear hp hq hR h1 h2 h3 C;go_enter func105,ntmps105;go_wp2;go_loopg [5,6,7,8,11] 3 (fun gk s5 s6 s7 s8 s11 wr=>wr=w∧∃ z:Int,s11=.int .i64 z∧((z=0∧3≤gk)∨(z=1∧2≤gk∧Hid (c1=0))∨(z=2∧1≤gk∧Hid (c1=0∧c2=0))∨(z=3∧Hid (c1=0∧c2=0∧c3=0))))
 case atStart=>exact ⟨rfl,0,rfl,.inl ⟨rfl,Nat.le_refl _⟩⟩
 case round=>
  obtain ⟨rfl,z,rfl,hz⟩:=hrel;rcases hz with ⟨rfl,vJ⟩ | ⟨rfl,vJ,H⟩ | ⟨rfl,vJ,H⟩ | ⟨rfl,H⟩
  · by_cases h:c1=0
    · have hb:(c1==0)=true:=beq_iff_eq.2 h;(go_wp2_with fail);refine (K1.out _).mono ?_;rintro e w' ⟨rfl,rfl⟩;go_wp2;go_roundg 2
      (case measure=>omega);case rel=>exact ⟨rfl,1,rfl,.inr (.inl ⟨rfl,Nat.le_refl _,aj h⟩)⟩
    {have hb:(c1==0)=false:=beq_eq_false_iff_ne.2 h;have HF:=aj (show R=c1 by rw [HR.out,if_neg h]);(go_wp2_with fail);refine (K1.out _).mono ?_;rintro e w' ⟨rfl,rfl⟩;go_wp2;go_ret;exact ⟨by rw [HF.out];rfl,rfl⟩}
  · by_cases h:c2=0
    · have hb:(c2==0)=true:=beq_iff_eq.2 h;(go_wp2_with fail);refine (K2.out _).mono ?_;rintro e w' ⟨rfl,rfl⟩;go_wp2;go_roundg 1
      (case measure=>omega);case rel=>exact ⟨rfl,2,rfl,.inr (.inr (.inl ⟨rfl,Nat.le_refl _,aj ⟨H.out,h⟩⟩))⟩
    {have hb:(c2==0)=false:=beq_eq_false_iff_ne.2 h;have HF:=aj (show R=c2 by rw [HR.out,if_pos H.out,if_neg h]);(go_wp2_with fail);refine (K2.out _).mono ?_;rintro e w' ⟨rfl,rfl⟩;go_wp2;go_ret;exact ⟨by rw [HF.out];rfl,rfl⟩}
  · by_cases h:c3=0
    · have hb:(c3==0)=true:=beq_iff_eq.2 h;(go_wp2_with fail);refine (K3.out _).mono ?_;rintro e w' ⟨rfl,rfl⟩;go_wp2;go_roundg 0
      (case measure=>omega);case rel=>exact ⟨rfl,3,rfl,.inr (.inr (.inr ⟨rfl,aj ⟨H.out.1,H.out.2,h⟩⟩))⟩
    {have hb:(c3==0)=false:=beq_eq_false_iff_ne.2 h;have HF:=aj (show R=c3 by rw [HR.out,if_pos H.out.1,if_pos H.out.2]);(go_wp2_with fail);refine (K3.out _).mono ?_;rintro e w' ⟨rfl,rfl⟩;go_wp2;go_ret;exact ⟨by rw [HF.out];rfl,rfl⟩}
  {have HF:=aj (show R=0 by rw [HR.out,if_pos H.out.1,if_pos H.out.2.1];exact H.out.2.2);go_wp2;go_ret;exact ⟨by rw [HF.out];rfl,rfl⟩}
theorem tZ {w:World} {P:Program} {ops:Array Oper} {o:Oper} {a:Act} {K:Act→World→Prop} {Q:Exit→Act→World→Prop} {E:Prop} (hgd:o.guard=none) (s x:Operand) (t:TypeId)
  (ho:o.op=.call { callee:=.builtin .append,args:=#[s,x],argTypes:=#[t,t] })
  (base:Nat) (e:TypeId) (i:TypeInfo) (z:Value) (size bytes:Nat) (ht:P.underlying t=some (.slice e)) (hi:P.info? e=some i) (hz:i.zero=some z)
  (hsize:i.size=size) (hby:i.bytes=bytes) (hzs:z.cells.size=size) (hsz:0<size)
  (v:Value) (n:Nat) (xs:List Value) (hs:a.eval s=v) (hown:w.ownsRow base e size v n xs)
  (ad:Addr) (m c:Nat) (us:List Value) (hm:us.length=m*size) (hx:a.eval x=.slice (some ad) m c) (hc:∀ j u,us[j]?=some u→w.cell? (ad.add j)=some u) (h1:∀ u∈us,u.oneCell'=true)
  (h63:n+m≤maxLen) (hbytes:(n+m)*bytes≤140737488355328) (hbase:base≤w.heap.size)
  (h:∀ v' w',w'.ownsRow base e size v' (n+m) (xs++us)→w.grownBy w' v.ownBlock→Moved w v v'→K (a.put o.dst v') w') :
  if Region.wanted o (yielded ops a.tmps)=true then Oper.wp P o a w K Q else E:=by
 have hwd:Region.wanted o (yielded ops a.tmps)=true:=by simp [Region.wanted,hgd]
 rw [if_pos hwd];obtain ⟨v',w',hr,h2,h3,h4⟩:=Dk (P:=P) (w:=w) base t o.type e i z size bytes ht hi hz hsize hby hzs hsz v n xs hown ad m c us hm hc h1 h63 hbytes hbase;have hk:=h v' w' h2 h3 h4;unfold Oper.wp execOp;simp only [ho,resolve,invoke,builtin,Sem.run_bind,Sem.run_pure,Result.andThen_ok,List.map_toArray,List.map_cons,List.map_nil,hs,hx,hr];exact hk
end Go.Proofs.YtockbaekcbeenaaGreatDoor
