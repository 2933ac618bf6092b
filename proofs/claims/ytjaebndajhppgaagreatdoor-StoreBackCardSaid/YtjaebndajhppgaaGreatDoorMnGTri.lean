/-GTri-/
import Derived.Test.YtjaebndajhppgaaGreatDoorMnGLn1
import Derived.Test.YtjaebndajhppgaaGreatDoorMnGTm3
import Derived.Test.YtjaebndajhppgaaGreatDoorMnGTm2
import Derived.Test.YtjaebndajhppgaaGreatDoorMnGTm1
import Derived.Lib.SmallJoins
import Derived.Maps.OwnSet
import Derived.Maps.OwnOps
import Derived.DeepKeys4
import Derived.Maps.Views
import Derived.Test.YtjaebndajhppgaaGreatDoorMnGB
import Derived.Deep.SlicePairs
import Derived.Lib.IndexMore
import Derived.Deep.RegionWith
import Derived.Deep.RegionLaw
set_option linter.unusedVariables false
set_option linter.unusedSimpArgs false
set_option maxRecDepth 100000
set_option maxHeartbeats 4000000
namespace Go.Proofs.YtjaebndajhppgaaGreatDoor
open Go.ChangeShapes Go.WideShapes Go.ChangeAt Go.RowKit
theorem UD {k:Int} {t x:List UInt8} (h:Tm.is k t x=true):1≤k:=by rcases Int.lt_or_le k 1 with hk | hk;{have:Tm.is k t x=false:=(by unfold Tm.is;simp only [show (k=1)=False from by simp;omega,show (k=2)=False from by simp;omega,show (k=3)=False from by simp;omega,show (k=4)=False from by simp;omega,show (k=5)=False from by simp;omega,if_false]);rw [this] at h;cases h};{exact hk}
def UF (w:World) (a1 a2 a3:List UInt8) (e:Ending) (w':World):Prop:=
 ∃ b,e=.returned (.slice (some ⟨b,0,none⟩) 3 3)∧w.heap.size≤b∧aj w' b [str a1,str a2,str a3] 9∧Below w.heap.size w w'
theorem J_ (k1:Int) (t1 x1:List UInt8) (k2:Int) (t2 x2:List UInt8) (k3:Int) (t3 x3:List UInt8) (w:World) (ht1:t1.length≤1000000000) (hx1:x1.length≤1000000000) (ht2:t2.length≤1000000000) (hx2:x2.length≤1000000000) (ht3:t3.length≤1000000000) (hx3:x3.length≤1000000000) :
  Calls Tryz.prog 94 #[dQ k1 t1 x1 k2 t2 x2 k3 t3 x3] w (UF w (Tm.show k1 t1 x1) (Tm.show k2 t2 x2) (Tm.show k3 t3 x3)):=by
 have HB:=hid (show Below w.heap.size w (aM w k1 t1 x1 k2 t2 x2 k3 t3 x3) from (Below.refl _ _).alloc (Nat.le_refl _) _);have HU:=hid (fE w k1 t1 x1 k2 t2 x2 k3 t3 x3);have S1:=hid (fun W=>vN k1 t1 x1 W ht1 hx1);have S2:=hid (fun W=>vN k2 t2 x2 W ht2 hx2);have S3:=hid (fun W=>vN k3 t3 x3 W ht3 hx3);obtain ⟨a1,h1⟩:∃ a,a=Tm.show k1 t1 x1:=⟨_,rfl⟩;obtain ⟨a2,h2⟩:∃ a,a=Tm.show k2 t2 x2:=⟨_,rfl⟩;obtain ⟨a3,h3⟩:∃ a,a=Tm.show k3 t3 x3:=⟨_,rfl⟩;rw [←h1,←h2,←h3];rw [←h1] at S1;rw [←h2] at S2;rw [←h3] at S3;clear h1 h2 h3;go_enter Tryz.func94,Tryz.ntmps94;go_wp2;obtain ⟨w1,hw1⟩:∃ w1,w1=aM w k1 t1 x1 k2 t2 x2 k3 t3 x3:=⟨_,rfl⟩;show Code.wp _ _ _ _ (aM w k1 t1 x1 k2 t2 x2 k3 t3 x3);rw [←hw1] at HB HU ⊢;clear hw1;have vO:=fun p:Later w1.heap.size w1=>p.keep (HU.out.cell (i:=0) rfl);have vP:=fun p:Later w1.heap.size w1=>p.keep (HU.out.cell (i:=1) rfl);have vQ:=fun p:Later w1.heap.size w1=>p.keep (HU.out.cell (i:=2) rfl);have UG:=fun p:Later w1.heap.size w1=>p.keep (HU.out.cell (i:=3) rfl);have UH:=fun p:Later w1.heap.size w1=>p.keep (HU.out.cell (i:=4) rfl);have UJ:=fun p:Later w1.heap.size w1=>p.keep (HU.out.cell (i:=5) rfl);have UK:=fun p:Later w1.heap.size w1=>p.keep (HU.out.cell (i:=6) rfl);have UL:=fun p:Later w1.heap.size w1=>p.keep (HU.out.cell (i:=7) rfl);have UM:=fun p:Later w1.heap.size w1=>p.keep (HU.out.cell (i:=8) rfl);refine Jg 9 w1.heap.size (by kernel_rfl) (by kernel_rfl) ?_;simp only [List.take_succ_cons,List.take_zero,List.drop_succ_cons,List.drop_zero];repeat (go_big_quiet_step (first | (go_at_call 57;with_reducible exact Later.call (Nat.le_refl _) (S1.out _)) | (go_at_call 57;with_reducible exact Later.call (Nat.le_refl _) (S2.out _)) | (go_at_call 57;with_reducible exact Later.call (Nat.le_refl _) (S3.out _))))
 refine wpQuiet_nil ?_;rintro wq ⟨q,hq⟩;have hlow:Below w1.heap.size w1 wq:=by rw [hq];exact q.low
 have f_:=hid (aA HB.out hlow);clear vO vP vQ UG UH UJ UK UL UM hq q hlow;go_wp2;go_ret;exact ⟨wq.heap.size,rfl,f_.out.size,aj.new' rfl rfl,f_.out.alloc f_.out.size _⟩
structure bL where
 k1:Int
 t1:List UInt8
 x1:List UInt8
 k2:Int
 t2:List UInt8
 x2:List UInt8
 k3:Int
 t3:List UInt8
 x3:List UInt8
def bL.cells (a:bL):List Value:=[.int .i64 a.k1,str a.t1,str a.x1,.int .i64 a.k2,str a.t2,str a.x2,.int .i64 a.k3,str a.t3,str a.x3]
abbrev bL.v (a:bL):Value:=dQ a.k1 a.t1 a.x1 a.k2 a.t2 a.x2 a.k3 a.t3 a.x3
def bL.big (a:bL):Int:=3+a.t1.length+a.x1.length+a.t2.length+a.x2.length+a.t3.length+a.x3.length
def bL.is (a:bL):Bool:=cZ a.k1 a.t1 a.x1 a.k2 a.t2 a.x2 a.k3 a.t3 a.x3
def bL.low (a:bL) (n:Nat):Prop:=a.t1.length≤n∧a.x1.length≤n∧a.t2.length≤n∧a.x2.length≤n∧a.t3.length≤n∧a.x3.length≤n
def pE (w:World) (p o:Nat) (a:bL):Prop:=∀ i,i<9→w.cell? ⟨p,o+i,none⟩=(a.cells)[i]?
theorem pE.at {w:World} {p o:Nat} {a:bL} (h:pE w p o a) (i:Nat) (hi:i<9) {v:Value} (hv:(a.cells)[i]?=some v):w.cell? ⟨p,o+i,none⟩=some v:=(h i hi).trans hv
theorem pE.keep {w w':World} {p o:Nat} {a:bL} (h:pE w p o a) (hb:Below w.heap.size w w'):pE w' p o a:=by intro i hi;have h1:=h i hi;have h2:(a.cells)[i]?=some ((a.cells)[i]'(hi)):=List.getElem?_eq_getElem hi;rw [h2] at h1 ⊢;exact ak hb h1
end Go.Proofs.YtjaebndajhppgaaGreatDoor
namespace Go.Proofs.YtjaebndajhppgaaGreatDoor.Tm
open Go
theorem UO (n n' b0 b1 b2 b3 c1 c2 c3:Nat) (hv:¬ ((Lib.decodeN n b0 b1 b2 b3).1=65533∧(Lib.decodeN n b0 b1 b2 b3).2=1)) (hn:(Lib.decodeN n b0 b1 b2 b3).2≤n') (h1:1<(Lib.decodeN n b0 b1 b2 b3).2→c1=b1) (h2:2<(Lib.decodeN n b0 b1 b2 b3).2→c2=b2) (h3:3<(Lib.decodeN n b0 b1 b2 b3).2→c3=b3) :
  Lib.decodeN n' b0 c1 c2 c3=Lib.decodeN n b0 b1 b2 b3:=by unfold Lib.decodeN at *;by_cases a:b0<128;{rw [if_pos a,if_pos a]};rw [if_neg a] at hv hn h1 h2 h3 ⊢;rw [if_neg a];by_cases a1:b0 / 32=6∧(1<n∧b1 / 64=2);{rw [if_pos a1] at hv hn h1 h2 h3 ⊢;by_cases g:b0 % 32*64+b1 % 64≥128;{rw [if_pos g] at hn h1 h2 h3 ⊢;have e:=h1 (by simp);subst e;simp only at hn;rw [if_pos (show b0 / 32=6∧(1<n'∧c1 / 64=2) from ⟨a1.1,by omega,a1.2.2⟩),if_pos g]};{rw [if_neg g] at hv;exact absurd ⟨rfl,rfl⟩ hv}};rw [if_neg a1] at hv hn h1 h2 h3 ⊢;by_cases a2:b0 / 16=14∧(1<n∧b1 / 64=2)∧(2<n∧b2 / 64=2);{rw [if_pos a2] at hv hn h1 h2 h3 ⊢;split at hv;{rename_i g;rw [if_pos g] at hn h1 h2 h3 ⊢;have e:=h1 (by simp);have e2:=h2 (by simp);subst e;subst e2;simp only at hn;obtain ⟨p,⟨q,r⟩,q2,r2⟩:=a2;rw [if_neg (show ¬ (b0 / 32=6∧(1<n'∧c1 / 64=2)) by omega),if_pos (show b0 / 16=14∧(1<n'∧c1 / 64=2)∧(2<n'∧c2 / 64=2) from ⟨p,⟨by omega,r⟩,by omega,r2⟩),if_pos g]};{exact absurd ⟨rfl,rfl⟩ hv}};rw [if_neg a2] at hv hn h1 h2 h3 ⊢;by_cases a3:b0 / 8=30∧(1<n∧b1 / 64=2)∧(2<n∧b2 / 64=2)∧(3<n∧b3 / 64=2);{rw [if_pos a3] at hv hn h1 h2 h3 ⊢;split at hv;{rename_i g;rw [if_pos g] at hn h1 h2 h3 ⊢;have e:=h1 (by simp);have e2:=h2 (by simp);have e3:=h3 (by simp);subst e;subst e2;subst e3;simp only at hn;obtain ⟨p,⟨q,r⟩,⟨q2,r2⟩,q3,r3⟩:=a3;rw [if_neg (show ¬ (b0 / 32=6∧(1<n'∧c1 / 64=2)) by omega),if_neg (show ¬ (b0 / 16=14∧(1<n'∧c1 / 64=2)∧(2<n'∧c2 / 64=2)) by omega),if_pos (show b0 / 8=30∧(1<n'∧c1 / 64=2)∧(2<n'∧c2 / 64=2)∧(3<n'∧c3 / 64=2) from ⟨p,⟨by omega,r⟩,⟨by omega,r2⟩,by omega,r3⟩),if_pos g]};{exact absurd ⟨rfl,rfl⟩ hv}};rw [if_neg a3] at hv;exact absurd ⟨rfl,rfl⟩ hv
theorem UQ {a b:List UInt8} {k:Nat} (h:k<a.length):(a++b).getD k 0=a.getD k 0:=by simp [List.getD,List.getElem?_append_left h]
theorem Dm (a:List UInt8) (ha:a≠[]) (hv:¬ ((Lib.decodeL a).1=65533∧(Lib.decodeL a).2=1)):(Lib.decodeL a).2≤a.length:=by
 have hl:0<a.length:=List.length_pos_iff.2 ha;rw [Lib.decodeL_N] at hv ⊢;revert hv;generalize (a.getD 0 0).toNat=b0;generalize (a.getD 1 0).toNat=b1;generalize (a.getD 2 0).toNat=b2;generalize (a.getD 3 0).toNat=b3;unfold Lib.decodeN;repeat' split
 all_goals (intro hv;simp_all <;> omega)
theorem Ka (a b:List UInt8) (ha:a≠[]) (hv:¬ ((Lib.decodeL a).1=65533∧(Lib.decodeL a).2=1)) (hb:(Lib.decodeL a).2≤b.length) (h:∀ k,k<(Lib.decodeL a).2→b.getD k 0=a.getD k 0):Lib.decodeL b=Lib.decodeL a:=by have hw:=Lib.decodeL_width a;have h0:=h 0 (by omega);rw [Lib.decodeL_N] at hv hb h;rw [Lib.decodeL_N,Lib.decodeL_N,h0];exact UO _ _ _ _ _ _ _ _ _ hv hb (fun hk=>by rw [h 1 hk]) (fun hk=>by rw [h 2 hk]) (fun hk=>by rw [h 3 hk])
theorem UR (a b:List UInt8) (ha:a≠[]) (hv:¬ ((Lib.decodeL a).1=65533∧(Lib.decodeL a).2=1)):Lib.decodeL (a++b)=Lib.decodeL a:=by have hle:=Dm a ha hv;exact Ka a (a++b) ha hv (by rw [List.length_append];omega) (fun k hk=>UQ (by omega))
theorem zn:∀ (n:Nat) (a b:List UInt8),a.length≤n→Lib.validD a=true→Lib.validD (a++b)=Lib.validD b
 | _,[],b,_,_=>rfl
 | 0,c::a,b,hn,_=>by simp at hn
 | n+1,c::a,b,hn,h=>by
  have hne:(c::a:List UInt8)≠[]:=by simp
  rw [Lib.validD_step _ hne] at h
  split at h
  · cases h
  · rename_i hv
    have hd:=UR (c::a) b hne hv
    have hle:=Dm (c::a) hne hv
    have hw:=Lib.decodeL_width (c::a)
    rw [Lib.validD_step (c::a++b) (by simp),hd,if_neg hv,List.drop_append_of_le_length hle]
    refine zn n _ b ?_ h
    rw [List.length_drop]
    simp only [List.length_cons] at hn hw ⊢
    omega
theorem zo:∀ (s:List UInt8),(∀ c∈s,c.toNat<128)→Lib.validD s=true
 | [],_=>rfl
 | c::s,h=>by rw [Lib.validD_cons _ _ (h c (by simp)),zo s (fun d hd=>h d (by simp [hd]))]
theorem Kc:∀ k:Fin 16,(fB k.val).toNat<128:=by decide
theorem UU (c:UInt8) (h:c.toNat<128):∀ d∈esc c,d.toNat<128:=by
 unfold esc;have h1:=Kc ⟨c.toNat / 16,by omega⟩;have h2:=Kc ⟨c.toNat % 16,by omega⟩;simp only at h1 h2;intro d hd;split at hd;{simp at hd;rcases hd with rfl | rfl;decide;exact h};repeat' (split at hd)
 all_goals (simp at hd)
 all_goals first
  | (rcases hd with rfl | rfl <;> decide)
  | (rcases hd with rfl | rfl | rfl | rfl | rfl <;> first | exact h1 | exact h2 | decide)
  | (subst hd;exact h)
theorem UW (c:UInt8) (h:128≤c.toNat):esc c=[c]:=
 Jq c (by omega) (fun e=>by subst e;revert h;decide) (fun e=>by subst e;revert h;decide) (fun e=>by subst e;revert h;decide)
theorem Ke:∀ (s:List UInt8),(∀ c∈s,128≤c.toNat)→bA s=s
 | [],_=>rfl
 | c::s,h=>by rw [vH,UW c (h c (by simp)),Ke s (fun d hd=>h d (by simp [hd]))];rfl
theorem UY (a:List UInt8) (ha:a≠[]) (h0:128≤(a.getD 0 0).toNat):∀ c∈a.take (Lib.decodeL a).2,128≤c.toNat:=by
 intro c hc;obtain ⟨k,hk,e⟩:=List.mem_iff_getElem.1 hc;have sQ:k<(Lib.decodeL a).2:=by rw [List.length_take] at hk;omega
 have hkl:k<a.length:=by rw [List.length_take] at hk;omega
 have e2:a.getD k 0=c:=by rw [←e,List.getElem_take];rw [List.getD,List.getElem?_eq_getElem hkl];rfl
 have ht:=Jw a.length (a.getD 0 0).toNat (a.getD 1 0).toNat (a.getD 2 0).toNat (a.getD 3 0).toNat;rw [←Lib.decodeL_N] at ht;obtain ⟨t1,t2,t3,t4⟩:=ht;have:k=0∨k=1∨k=2∨k=3:=by omega
 rcases this with rfl | rfl | rfl | rfl;{rw [←e2];exact h0};{have:=t1 (by omega);rw [e2] at this;omega};{have:=t2 (by omega);rw [e2] at this;omega};{have:=t3 (by omega);rw [e2] at this;omega}
theorem vR:∀ (n:Nat) (s:List UInt8),s.length≤n→Lib.validD s=true→Lib.validD (bA s)=true
 | _,[],_,_=>rfl
 | 0,c::s,hn,_=>by simp at hn
 | n+1,c::s,hn,h=>by
  simp only [List.length_cons] at hn
  by_cases hc:c.toNat<128
  · rw [Lib.validD_cons _ _ hc] at h
    rw [vH,zn _ _ _ (Nat.le_refl _) (zo _ (UU c hc))]
    exact vR n s (by omega) h
  · have hne:(c::s:List UInt8)≠[]:=by simp
    have h':=h
    rw [Lib.validD_step _ hne] at h'
    split at h'
    · cases h'
    · rename_i hv
      have hle:=Dm (c::s) hne hv
      have hw:=Lib.decodeL_width (c::s)
      have hhi:=UY (c::s) hne (by simp only [List.getD_cons_zero];omega)
      have hsp:=List.take_append_drop (Lib.decodeL (c::s)).2 (c::s)
      obtain ⟨k,hk⟩:∃ k,k=(Lib.decodeL (c::s)).2:=⟨_,rfl⟩
      rw [←hk] at hle hw hhi hsp h' hv
      have htl:((c::s).take k).length=k:=by rw [List.length_take];omega
      have UZ:Lib.validD ((c::s).take k)=true:=by
       have hne2:(c::s).take k≠[]:=by intro e;have:=congrArg List.length e;rw [htl] at this;simp at this;omega
       have hd:Lib.decodeL ((c::s).take k)=Lib.decodeL (c::s):=by
        refine Ka (c::s) _ hne (by rw [←hk];exact hv) (by rw [htl,hk];exact Nat.le_refl _) (fun j hj=>?_)
        rw [←hk] at hj
        simp [List.getD,List.getElem?_take,hj]
       rw [Lib.validD_step _ hne2,hd,if_neg (by rw [←hk];exact hv),List.drop_eq_nil_of_le (by rw [htl,hk];exact Nat.le_refl _)]
       rfl
      rw [←hsp,Jp,Ke _ hhi,zn _ _ _ (Nat.le_refl _) UZ]
      refine vR n _ ?_ h'
      rw [List.length_drop];simp only [List.length_cons];omega
end Go.Proofs.YtjaebndajhppgaaGreatDoor.Tm
namespace Go.Proofs.YtjaebndajhppgaaGreatDoor
open Go.ChangeShapes Go.WideShapes Go.ChangeAt Go.RowKit
namespace Tm
theorem fF {k:Int} {t x:List UInt8} (h:Tm.is k t x=true):∃ n:Nat,k=n∧1≤n∧n≤5:=by unfold Tm.is at h;refine ⟨k.toNat,?_⟩;by_cases h1:k=1;{subst h1;exact ⟨rfl,by decide⟩};by_cases h2:k=2;{subst h2;exact ⟨rfl,by decide⟩};by_cases h3:k=3;{subst h3;exact ⟨rfl,by decide⟩};by_cases h4:k=4;{subst h4;exact ⟨rfl,by decide⟩};by_cases h5:k=5;{subst h5;exact ⟨rfl,by decide⟩};rw [if_neg h1,if_neg h2,if_neg h3,if_neg h4,if_neg h5] at h;cases h
theorem sW {n:Nat} {t x:List UInt8} (h:Tm.is (n:Int) t x=true) :
  (n=1∧x=[]∧iG t=true)∨(n=2∧x=[]∧label t=true)∨(n=3∧x=[]∧text t=true)∨(n=4∧lang x=true∧text t=true)∨(n=5∧iG x=true∧text t=true):=by
 obtain ⟨m,hm,h1,h5⟩:=fF h;obtain rfl:n=m:=by omega
 clear hm;have hn:n=1∨n=2∨n=3∨n=4∨n=5:=by omega
 rcases hn with rfl | rfl | rfl | rfl | rfl;{have h':(x.isEmpty && iG t)=true:=h;rw [Bool.and_eq_true] at h';exact .inl ⟨rfl,by simpa using h'.1,h'.2⟩};{have h':(x.isEmpty && label t)=true:=h;rw [Bool.and_eq_true] at h';exact .inr (.inl ⟨rfl,by simpa using h'.1,h'.2⟩)};{have h':(x.isEmpty && text t)=true:=h;rw [Bool.and_eq_true] at h';exact .inr (.inr (.inl ⟨rfl,by simpa using h'.1,h'.2⟩))};{have h':(lang x && text t)=true:=h;rw [Bool.and_eq_true] at h';exact .inr (.inr (.inr (.inl ⟨rfl,h'.1,h'.2⟩)))};{have h':(iG x && text t)=true:=h;rw [Bool.and_eq_true] at h';exact .inr (.inr (.inr (.inr ⟨rfl,h'.1,h'.2⟩)))}
theorem zq {s:List UInt8} (h:iG s=true):1≤s.length∧s.length≤60∧Lib.validD s=true:=by unfold iG at h;simp only [Bool.and_eq_true,decide_eq_true_eq] at h;exact ⟨h.1.1.1,h.1.1.2,h.1.2⟩
theorem sZ {s:List UInt8} (h:text s=true):s.length≤30∧Lib.validD s=true:=by unfold text at h;simp only [Bool.and_eq_true,decide_eq_true_eq] at h;exact h
theorem vS {s:List UInt8} (h:label s=true):1≤s.length∧s.length≤8∧∀ c∈s,dD c=true:=by unfold label at h;simp only [Bool.and_eq_true,decide_eq_true_eq,List.all_eq_true] at h;exact ⟨h.1.1,h.1.2,h.2⟩
theorem Kg {s:List UInt8} (h:lang s=true):s.length≤16∧∀ c∈s,c.toNat<128:=by unfold lang at h;simp only [Bool.and_eq_true,decide_eq_true_eq] at h;refine ⟨h.2,fun c hc=>?_⟩;have:=sP s false 0 h.1 c hc;simp only [small,digit,Bool.or_eq_true,Bool.and_eq_true,decide_eq_true_eq,beq_iff_eq] at this;rcases this with (h | h) | h;{omega};{omega};{subst h;decide}
theorem U0 {c:UInt8} (h:dD c=true):c.toNat<128:=by simp only [dD,small,digit,Bool.or_eq_true,Bool.and_eq_true,decide_eq_true_eq] at h;omega
theorem pF {a b:List UInt8} (ha:Lib.validD a=true) (hb:Lib.validD b=true):Lib.validD (a++b)=true:=by rw [zn _ _ _ (Nat.le_refl _) ha,hb]
theorem je {c:UInt8} {b:List UInt8} (hc:c.toNat<128) (hb:Lib.validD b=true):Lib.validD (c::b)=true:=by rw [Lib.validD_cons _ _ hc,hb]
theorem Dn {n:Nat} {t x:List UInt8} (h:Tm.is (n:Int) t x=true):Lib.validD (aG n t x)=true:=by rcases sW h with ⟨rfl,rfl,h1⟩ | ⟨rfl,rfl,h1⟩ | ⟨rfl,rfl,h1⟩ | ⟨rfl,h1,h2⟩ | ⟨rfl,h1,h2⟩;{show Lib.validD (60::(t++[62]))=true;exact je (by decide) (pF (zq h1).2.2 (by decide))};{show Lib.validD (95::58::t)=true;exact je (by decide) (je (by decide) (zo _ (fun c hc=>U0 ((vS h1).2.2 c hc))))};{show Lib.validD (34::(bA t++[34]))=true;exact je (by decide) (pF (vR _ _ (Nat.le_refl _) (sZ h1).2) (by decide))};{show Lib.validD (34::(bA t++34::64::x))=true;exact je (by decide) (pF (vR _ _ (Nat.le_refl _) (sZ h2).2) (je (by decide) (je (by decide) (zo _ (Kg h1).2))))};{show Lib.validD (34::(bA t++34::94::94::60::(x++[62])))=true;exact je (by decide) (pF (vR _ _ (Nat.le_refl _) (sZ h2).2) (je (by decide) (je (by decide) (je (by decide) (je (by decide) (pF (zq h1).2.2 (by decide)))))))}
theorem fq {n:Nat} {t x:List UInt8} (h:Tm.is (n:Int) t x=true):(aG n t x).length≤250∧t.length≤60∧x.length≤60:=by have he:=kW t;rcases sW h with ⟨rfl,rfl,h1⟩ | ⟨rfl,rfl,h1⟩ | ⟨rfl,rfl,h1⟩ | ⟨rfl,h1,h2⟩ | ⟨rfl,h1,h2⟩;{have:=zq h1;refine ⟨?_,by omega,by simp⟩;show (60::(t++[62])).length≤250;simp;omega};{have:=vS h1;refine ⟨?_,by omega,by simp⟩;show (95::58::t).length≤250;simp;omega};{have:=sZ h1;refine ⟨?_,by omega,by simp⟩;show (34::(bA t++[34])).length≤250;simp;omega};{have:=sZ h2;have:=Kg h1;refine ⟨?_,by omega,by omega⟩;show (34::(bA t++34::64::x)).length≤250;simp;omega};{have:=sZ h2;have:=zq h1;refine ⟨?_,by omega,by omega⟩;show (34::(bA t++34::94::94::60::(x++[62]))).length≤250;simp;omega}
theorem Kh {n:Nat} {t x:List UInt8} (h:Tm.is (n:Int) t x=true):dw (aG n t x)=some (n,t,x,[]):=by rcases sW h with ⟨rfl,rfl,h1⟩ | ⟨rfl,rfl,h1⟩ | ⟨rfl,rfl,h1⟩ | ⟨rfl,h1,h2⟩ | ⟨rfl,h1,h2⟩;{exact Tg (sS h1)};{exact Ti (vS h1).2.2};{exact Tj t};{exact Tk h1};{exact Tp (sS h1)}
theorem zw {n m:Nat} {t x u y:List UInt8} (h:Tm.is (n:Int) t x=true) (h2:Tm.is (m:Int) u y=true):aG n t x=aG m u y↔(n=m∧t=u∧x=y):=by constructor;{intro e;have:=Kh h;rw [e,Kh h2] at this;simp only [Option.some.injEq,Prod.mk.injEq] at this;exact ⟨this.1.symm,this.2.1.symm,this.2.2.1.symm⟩};{rintro ⟨rfl,rfl,rfl⟩;rfl}
end Tm
open Go.ChangeShapes Go.WideShapes Go.ChangeAt Go.RowKit
theorem U1 {l:List Value} (h:l.length=9):∃ c0 c1 c2 c3 c4 c5 c6 c7 c8,l=[c0,c1,c2,c3,c4,c5,c6,c7,c8]:=by
 rcases l with _ | ⟨c0,_ | ⟨c1,_ | ⟨c2,_ | ⟨c3,_ | ⟨c4,_ | ⟨c5,_ | ⟨c6,_ | ⟨c7,_ | ⟨c8,_ | ⟨c9,l⟩⟩⟩⟩⟩⟩⟩⟩⟩⟩;all_goals (try simp at h)
 exact ⟨c0,c1,c2,c3,c4,c5,c6,c7,c8,rfl⟩
theorem Dp {H:Type} {enc:TypeId×Value→H} {W:World} {n:Nat} {c0 c1 c2:Value} {y:DataW H×List MemPlace} (h:DataW.trod enc Tryz.prog W 0 (fun _=>true) true n 61 [c0,c1,c2]=some y) :
  ∃ (k:Int) (t x:List UInt8),c0=.int .i64 k∧c1=str t∧c2=str x∧y.1=.agg [.lit (.int .i64 k),.lit (.string t),.lit (.string x)]:=by obtain ⟨y0,y1,y2,m,hx,_,h0,h1,h2⟩:=Go.Deep.trod_struct3 Tryz.underlying61 h;have g0:DataW.trod enc Tryz.prog W 0 (fun _=>true) true m 3 [c0]=some y0:=h0;have g1:DataW.trod enc Tryz.prog W 0 (fun _=>true) true m 9 [c1]=some y1:=h1;have g2:DataW.trod enc Tryz.prog W 0 (fun _=>true) true m 9 [c2]=some y2:=h2;obtain ⟨k,e0,f0,w0⟩:=DataW.trod_int Tryz.underlying3 g0;obtain ⟨t,e1,f1,w1⟩:=DataW.trod_string Tryz.underlying9 g1;obtain ⟨x,e2,f2,w2⟩:=DataW.trod_string Tryz.underlying9 g2;simp only [List.cons.injEq,and_true] at e0 e1 e2;refine ⟨k,t.data.toList,x.data.toList,e0,by rw [e1,CK t],by rw [e2,CK x],?_⟩;rw [hx,f0,f1,f2]
theorem Ki:Go.laidOutB Tryz.prog=true:=by kernel_rfl
theorem U3:67<Tryz.prog.types.size:=of_decide_eq_true (by kernel_rfl)
theorem U4:(match Tryz.prog.underlying 67 with | some (.array _ _) | some (.struct _)=>true | _=>false)=true:=by kernel_rfl
theorem nQ:Maps.Keyed Tryz.prog 67:=Maps.Keyed.of_law (deep_law_laid Ki (m:=4) (by omega) U3 (by kernel_rfl) U4)
theorem U5:Tryz.prog.keyType 67=true:=by kernel_rfl
theorem keyLits_int (d:Nat) (k:Int) (hk:(Lit.int .i64 k).wf=true):Tryz.prog.keyLits (d+1) 3 [.int .i64 k]=some [.int .i64 k]:=by unfold Program.keyLits;rw [Tryz.underlying3];simp [hk]
theorem Kj (d:Nat) (t:List UInt8) (ht:t.length≤maxLen):Tryz.prog.keyLits (d+1) 9 [str t]=some [.string t]:=by unfold Program.keyLits;rw [Tryz.underlying9];simp [ByteArray.size,ht]
theorem Dq:Tryz.prog.cellsOf 61=3:=by kernel_rfl
theorem U6:Tryz.prog.cellsOf 3=1:=by kernel_rfl
theorem U7:Tryz.prog.cellsOf 9=1:=by kernel_rfl
theorem Kk:Tryz.prog.cellsOf 67=9:=by kernel_rfl
theorem zx (d:Nat) (k:Int) (t x:List UInt8) (hk:(Lit.int .i64 k).wf=true) (ht:t.length≤maxLen) (hx:x.length≤maxLen) :
  Tryz.prog.keyLits (d+2) 61 [.int .i64 k,str t,str x]=some [.int .i64 k,.string t,.string x]:=by have e1:=keyLits_int d k hk;have e2:=Kj d t ht;have e3:=Kj d x hx;have c1:=Dq;have c2:=U6;have c3:=U7;unfold Program.keyLits;rw [Tryz.underlying61];simp [c1,c2,c3,e1,e2,e3]
theorem U8 (d:Nat) (k1 k2 k3:Int) (t1 x1 t2 x2 t3 x3:List UInt8) (h1:(Lit.int .i64 k1).wf=true) (h2:(Lit.int .i64 k2).wf=true) (h3:(Lit.int .i64 k3).wf=true) (ht1:t1.length≤maxLen) (hx1:x1.length≤maxLen) (ht2:t2.length≤maxLen) (hx2:x2.length≤maxLen) (ht3:t3.length≤maxLen) (hx3:x3.length≤maxLen) :
  Tryz.prog.keyLits (d+3) 67 [.int .i64 k1,str t1,str x1,.int .i64 k2,str t2,str x2,.int .i64 k3,str t3,str x3]=some [.int .i64 k1,.string t1,.string x1,.int .i64 k2,.string t2,.string x2,.int .i64 k3,.string t3,.string x3]:=by have e1:=zx d k1 t1 x1 h1 ht1 hx1;have e2:=zx d k2 t2 x2 h2 ht2 hx2;have e3:=zx d k3 t3 x3 h3 ht3 hx3;have c1:=Dq;have c4:=Kk;unfold Program.keyLits;rw [Tryz.underlying67];simp [c1,c4,e1,e2,e3]
def zy (k1:Int) (t1 x1:List UInt8) (k2:Int) (t2 x2:List UInt8) (k3:Int) (t3 x3:List UInt8):Lit:=
 .string (keyBytes [.int .i64 k1,.string t1,.string x1,.int .i64 k2,.string t2,.string x2,.int .i64 k3,.string t3,.string x3])
theorem U9 (k1 k2 k3:Int) (t1 x1 t2 x2 t3 x3:List UInt8) (h1:(Lit.int .i64 k1).wf=true) (h2:(Lit.int .i64 k2).wf=true) (h3:(Lit.int .i64 k3).wf=true) (ht1:t1.length≤maxLen) (hx1:x1.length≤maxLen) (ht2:t2.length≤maxLen) (hx2:x2.length≤maxLen) (ht3:t3.length≤maxLen) (hx3:x3.length≤maxLen) :
  keyOf Tryz.prog 67 (dQ k1 t1 x1 k2 t2 x2 k3 t3 x3)=some (zy k1 t1 x1 k2 t2 x2 k3 t3 x3):=by
 obtain ⟨d,hd⟩:∃ d,Tryz.prog.types.size+1=d+3:=⟨Tryz.prog.types.size-2,by have:3≤Tryz.prog.types.size:=of_decide_eq_true (by kernel_rfl);omega⟩;have e:=U8 d k1 k2 k3 t1 x1 t2 x2 t3 x3 h1 h2 h3 ht1 hx1 ht2 hx2 ht3 hx3;have hf:(dQ k1 t1 x1 k2 t2 x2 k3 t3 x3).formed Tryz.prog 67=true:=by have c4:=Kk;have u:=Tryz.underlying67;simp [Value.formed,u,c4]
 have u:=Tryz.underlying67;unfold keyOf;rw [u];simp only;rw [U5,hf,hd];have ec:(dQ k1 t1 x1 k2 t2 x2 k3 t3 x3).cells.toList=[.int .i64 k1,str t1,str x1,.int .i64 k2,str t2,str x2,.int .i64 k3,str t3,str x3]:=by simp [Value.cells]
 rw [ec,e];rfl
abbrev TR:=Tm.T3×Tm.T3×Tm.T3
abbrev nR (t:TR):Value:=dQ (t.1.1:Nat) t.1.2.1 t.1.2.2 (t.2.1.1:Nat) t.2.1.2.1 t.2.1.2.2 (t.2.2.1:Nat) t.2.2.2.1 t.2.2.2.2
def jf (t:TR):Lit:=zy (t.1.1:Nat) t.1.2.1 t.1.2.2 (t.2.1.1:Nat) t.2.1.2.1 t.2.1.2.2 (t.2.2.1:Nat) t.2.2.2.1 t.2.2.2.2
def nS (t:TR):Prop:=(t.1.1≤5∧t.1.2.1.length≤100000000∧t.1.2.2.length≤100000000)∧(t.2.1.1≤5∧t.2.1.2.1.length≤100000000∧t.2.1.2.2.length≤100000000)∧(t.2.2.1≤5∧t.2.2.2.1.length≤100000000∧t.2.2.2.2.length≤100000000)
theorem zA {n:Nat} (h:n≤5):(Lit.int .i64 (n:Nat)).wf=true:=by rcases (show n=0∨n=1∨n=2∨n=3∨n=4∨n=5 by omega) with rfl | rfl | rfl | rfl | rfl | rfl <;> decide
theorem tq {t:TR} (h:nS t):keyOf Tryz.prog 67 (nR t)=some (jf t):=by obtain ⟨⟨a1,a2,a3⟩,⟨b1,b2,b3⟩,c1,c2,c3⟩:=h;exact U9 _ _ _ _ _ _ _ _ _ (zA a1) (zA b1) (zA c1) (by unfold maxLen;omega) (by unfold maxLen;omega) (by unfold maxLen;omega) (by unfold maxLen;omega) (by unfold maxLen;omega) (by unfold maxLen;omega)
theorem U_ {s t:TR} (hs:nS s) (ht:nS t) (h:jf s=jf t):s=t:=by have e:=nQ.inj (tq hs) (h ▸ tq ht);obtain ⟨⟨s1,s2,s3⟩,⟨s4,s5,s6⟩,s7,s8,s9⟩:=s;obtain ⟨⟨t1,t2,t3⟩,⟨t4,t5,t6⟩,t7,t8,t9⟩:=t;simp only [dQ,Value.agg.injEq,Array.mk.injEq,List.cons.injEq,Value.int.injEq,true_and,and_true,Int.natCast_inj] at e;obtain ⟨e1,e2,e3,e4,e5,e6,e7,e8,e9⟩:=e;rw [e1,str_inj e2,str_inj e3,e4,str_inj e5,str_inj e6,e7,str_inj e8,str_inj e9]
def dX (l:List TR):DataW Unit:=Maps.setOf (.agg []) (l.map jf)
theorem Kl (l:List TR) (t:TR):dX (l++[t])=(dX l).put (jf t) (.agg []):=by unfold dX;rw [List.map_append,List.map_cons,List.map_nil,Maps.setOf_snoc]
theorem zB {l:List TR} {t:TR} (hl:∀ s∈l,nS s) (ht:nS t):Maps.has (dX l) (jf t)=decide (t∈l):=by unfold dX;rw [Maps.has_setOf _ _ _ (fun x hx=>by obtain ⟨s,hs,rfl⟩:=List.mem_map.1 hx;exact nQ.key (tq (hl s hs)))];rw [Bool.eq_iff_iff];simp only [List.any_eq_true,List.mem_map,decide_eq_true_eq];constructor;{rintro ⟨x,⟨s,hs,rfl⟩,hx⟩;have:jf s=jf t:=(by simpa [jf,zy,Lit.sameKey] using hx);rw [←U_ (hl s hs) ht this];exact hs};{intro h;exact ⟨_,⟨t,h,rfl⟩,by simp [jf,zy,Lit.sameKey]⟩}
instance:Inhabited bL:=⟨⟨0,[],[],0,[],[],0,[],[]⟩⟩
def bB (W:World) (v:Value) (L:List bL):Prop:=∃ (a:Option Addr) (cap:Nat),v=.slice a L.length cap∧L.length≤cap∧cap≤maxLen∧(a=none→cap=0) ∧
 (L.length=0∨∃ b off,a=some ⟨b,off,none⟩∧∀ i (h:i<L.length),pE W b (off+i*9) L[i])
theorem bB.keep {W W':World} {v:Value} {L:List bL} (h:bB W v L) (hb:Below W.heap.size W W'):bB W' v L:=by obtain ⟨a,cap,h1,h2,h3,h4,h5⟩:=h;refine ⟨a,cap,h1,h2,h3,h4,?_⟩;rcases h5 with h5 | ⟨b,off,e,h5⟩;{exact Or.inl h5};{exact Or.inr ⟨b,off,e,fun i hi=>(h5 i hi).keep hb⟩}
theorem bB.drawn {W:World} {v:Value} {L:List bL} (h:bB W v L) (n:Nat):bB (W.drewN n) v L:=h
theorem bB.nil (W:World):bB W (.slice none 0 0) []:=⟨none,0,rfl,Nat.le_refl _,by unfold maxLen;omega,fun _=>rfl,Or.inl rfl⟩
theorem bB.open {W:World} {v:Value} {L:List bL} (h:bB W v L):∃ a cap,v=.slice a L.length cap∧L.length≤cap∧cap≤maxLen∧(a=none→cap=0):=by obtain ⟨a,cap,h1,h2,h3,h4,_⟩:=h;exact ⟨a,cap,h1,h2,h3,h4⟩
theorem bB.get {W:World} {a:Option Addr} {n cap:Nat} {L:List bL} (h:bB W (.slice a n cap) L) {i:Nat} (hi:i<L.length):∃ b off,a=some ⟨b,off,none⟩∧∀ i (h:i<L.length),pE W b (off+i*9) L[i]:=by obtain ⟨a',cap',e,h2,h3,h4,h5⟩:=h;simp only [Value.slice.injEq] at e;obtain ⟨rfl,rfl,rfl⟩:=e;rcases h5 with h5 | h5;{omega};{exact h5}
theorem bB.front {W:World} {a:Option Addr} {n cap:Nat} {L:List bL} (h:bB W (.slice a n cap) L) (k:Nat) (hk:k≤n):bB W (.slice a k cap) (L.take k):=by
 obtain ⟨a',cap',e,h1,h2,h3,r⟩:=h;simp only [Value.slice.injEq] at e;obtain ⟨rfl,rfl,rfl⟩:=e;have hl:(L.take k).length=k:=by rw [List.length_take];omega
 refine ⟨a,cap,by rw [hl],by omega,h2,h3,?_⟩;rcases r with h0 | ⟨b,off,ha,hc⟩;{exact Or.inl (by omega)};{refine Or.inr ⟨b,off,ha,fun i hi=>?_⟩;have:=hc i (by omega);rwa [List.getElem_take]}
theorem bB.back {W:World} {b off n cap:Nat} {L:List bL} (h:bB W (.slice (some ⟨b,off,none⟩) n cap) L) (k:Nat) (hk:k≤n):bB W (.slice (some ⟨b,off+k*9,none⟩) (n-k) (cap-k)) (L.drop k):=by
 obtain ⟨a',cap',e,h1,h2,h3,r⟩:=h;simp only [Value.slice.injEq] at e;obtain ⟨rfl,rfl,rfl⟩:=e;have hl:(L.drop k).length=L.length-k:=by rw [List.length_drop]
 refine ⟨_,_,by rw [hl],by omega,by omega,(fun h=>by cases h),?_⟩;rcases r with h0 | ⟨b',off',ha,hc⟩;{exact Or.inl (by omega)};{cases ha;refine Or.inr ⟨b,off+k*9,rfl,fun i hi=>?_⟩;have:=hc (k+i) (by omega);rw [List.getElem_drop,show off+k*9+i*9=off+(k+i)*9 by omega];exact this}
def aK (t:TR):bL:=⟨(t.1.1:Nat),t.1.2.1,t.1.2.2,(t.2.1.1:Nat),t.2.1.2.1,t.2.1.2.2,(t.2.2.1:Nat),t.2.2.2.1,t.2.2.2.2⟩
section
variable {H:Type} {enc:TypeId×Value→H} {W:World} {base:Nat} {v:Value} {d:DataW H} {p:List MemPlace}
theorem Va {n:Nat} {cs:List Value} {x:DataW H×List MemPlace} (h:DataW.trod enc Tryz.prog W 0 (fun _=>true) true n 67 cs=some x) (hs:vE 67 x.1) :
  ∃ a:bL,cs=a.cells∧a.low 1000000000000000:=by
 have h9:cs.length=9:=by obtain ⟨_,_,_,_,hx,hl,_⟩:=Go.Deep.trod_struct3 Tryz.underlying67 h;rw [hl];kernel_rfl
 obtain ⟨c0,c1,c2,c3,c4,c5,c6,c7,c8,rfl⟩:=U1 h9;obtain ⟨y0,y1,y2,n,hx,_,h0,h1,h2⟩:=Go.Deep.trod_struct3 Tryz.underlying67 h;have g0:DataW.trod enc Tryz.prog W 0 (fun _=>true) true n 61 [c0,c1,c2]=some y0:=h0;have g1:DataW.trod enc Tryz.prog W 0 (fun _=>true) true n 61 [c3,c4,c5]=some y1:=h1;have g2:DataW.trod enc Tryz.prog W 0 (fun _=>true) true n 61 [c6,c7,c8]=some y2:=h2;obtain ⟨k1,t1,x1,rfl,rfl,rfl,f1⟩:=Dp g0;obtain ⟨k2,t2,x2,rfl,rfl,rfl,f2⟩:=Dp g1;obtain ⟨k3,t3,x3,rfl,rfl,rfl,f3⟩:=Dp g2;refine ⟨⟨k1,t1,x1,k2,t2,x2,k3,t3,x3⟩,rfl,?_⟩;obtain ⟨d,p⟩:=x;simp only [Prod.mk.injEq] at hx;have hd:=hx.1;rw [f1,f2,f3] at hd;subst hd;have u1:=Tryz.underlying67;have u2:=Tryz.underlying61;unfold vE at hs;simp only [DataW.weights,DataW.weightsEach,u1,u2,List.map_cons,List.map_nil,List.append_nil,List.nil_append,List.mem_append,List.mem_singleton,List.mem_cons,List.not_mem_nil,or_false] at hs;unfold bL.low;unfold reachBytes at hs;refine ⟨?_,?_,?_,?_,?_,?_⟩;{have:=hs t1.length (by simp);simp only;omega};{have:=hs x1.length (by simp);simp only;omega};{have:=hs t2.length (by simp);simp only;omega};{have:=hs x2.length (by simp);simp only;omega};{have:=hs t3.length (by simp);simp only;omega};{have:=hs x3.length (by simp);simp only;omega}
theorem Vb (hv:Value.okWide Tryz.prog W .any base 39 v) (h:DataW.Trod enc Tryz.prog W 0 (fun _=>true) true 39 v d p) (hs:vE 39 d) :
  ∃ L:List bL,bB W v L∧(∀ t∈L,t.low 1000000000000000)∧L.length≤140737488351232:=by obtain ⟨fuel,hx⟩:=SF Tryz.underlying39 hv h;rcases Go.Deep.open_slice Tryz.underlying39 hx with ⟨hcs,_⟩ | ⟨a,len,cap,m,n,D,Pl,hcs,_,hl,hm,hmm,hx0,hxe⟩;{simp only [List.cons.injEq,and_true] at hcs;subst hcs;exact ⟨[],bB.nil W,(fun s hs=>by cases hs),by simp⟩};{simp only [List.cons.injEq,and_true] at hcs;subst hcs;simp only [if_true] at hmm;subst hmm;obtain ⟨rfl,_⟩:=Prod.mk.inj hx0;have Km:Tryz.prog.cellsOf 67=9:=(by kernel_rfl);have hbytes:Tryz.prog.bytesOf 67=120:=(by kernel_rfl);have hw:len*120≤reachBytes:=(by have h1:(len+(m-len))*Tryz.prog.bytesOf 67≤reachBytes:=hs _ (by show _∈DataW.weights Tryz.prog 39 (DataW.slice _ _);simp [DataW.weights,Tryz.underlying39]);rw [hbytes] at h1;omega);have hsz:∀ i,i<len→vE 67 (D i):=fun i hi k hk=>hs k (by show _∈DataW.weights Tryz.prog 39 (DataW.slice _ _);simp only [DataW.weights,Tryz.underlying39,List.mem_cons,List.mem_append];exact Or.inr (Or.inl (Sz hk (List.mem_map.2 ⟨i,by simpa using hi,rfl⟩))));rw [Km] at hxe;obtain ⟨L,hL,hp⟩:=SE (default:bL) len (fun i t=>(∀ c,c<9→W.cell? ((a.add (i*9)).add c)=t.cells[c]?)∧t.low 1000000000000000) (fun i hi=>by obtain ⟨cs,h1,h2⟩:=hxe i (by omega);obtain ⟨t,rfl,hf⟩:=Va h2 (hsz i hi);obtain ⟨_,_,hc⟩:=World.cells?_some h1;exact ⟨t,fun c hc'=>by rw [hc c hc'],hf⟩);have hget:∀ i (hi:i<L.length),L.getD i (default:bL)=L[i]:=fun i hi=>(by rw [List.getD,List.getElem?_eq_getElem hi];rfl);refine ⟨L,⟨some a,m,by rw [hL],by omega,hm,(fun h=>by cases h),?_⟩,fun s hs=>?_,by unfold reachBytes at hw;omega⟩;{rcases Nat.eq_zero_or_pos len with h0 | h0;{exact Or.inl (by omega)};{have h00:=(hp 0 h0).1 0 (by omega);have hsp:a.spot=none:=(by have h1:W.cell? ((a.add (0*9)).add 0)=some (.int .i64 (L.getD 0 default).k1):=h00;have:=Sv h1;simpa [Addr.add] using this);refine Or.inr ⟨a.block,a.off,by cases a;simp at hsp;rw [hsp],fun i hi c hc=>?_⟩;have h1:=(hp i (by omega)).1 c hc;rw [hget i hi] at h1;have e:a.add (i*9)=⟨a.block,a.off+i*9,none⟩:=(by cases a;simp at hsp;subst hsp;simp [Addr.add]);rw [e,iF rfl] at h1;exact h1}};{obtain ⟨i,hi,rfl⟩:=List.getElem_of_mem hs;have:=(hp i (by omega)).2;rwa [hget i hi] at this}}
end
end Go.Proofs.YtjaebndajhppgaaGreatDoor
namespace Go.Proofs.YtjaebndajhppgaaGreatDoor.Tm
open Go Go.RowKit
theorem Kn (e:UInt8) (lit:Bool) (s r:T) (h:∀ c∈s,c≠e∧c≠92∧c≠10∧c≠13):bZ e lit (s++e::r)=some (s,r):=by unfold bZ;exact yZ e lit s r _ (by simp) h
theorem Dt (s r:T):bZ 34 true (bA s++34::r)=some (s,r):=by unfold bZ;have hl:=(kW s).1;exact vI s r _ (by simp;omega)
theorem Du {p:UInt8→Bool}:∀ {l:T} (c:UInt8) (r:T),(∀ d∈l,p d=true)→p c=false→(l++c::r).takeWhile p=l∧(l++c::r).dropWhile p=c::r
 | [],c,r,_,hc=>by simp [hc]
 | d::l,c,r,h,hc=>by
  have hd:=h d (by simp)
  have ih:=Du (p:=p) (l:=l) c r (fun e he=>h e (by simp [he])) hc
  simp [hd,ih.1,ih.2]
theorem Vd {n:Nat} {t x:T} (r:T) (h:Tm.is (n:Int) t x=true):dw (aG n t x++32::r)=some (n,t,x,32::r):=by rcases sW h with ⟨rfl,rfl,h1⟩ | ⟨rfl,rfl,h1⟩ | ⟨rfl,rfl,h1⟩ | ⟨rfl,h1,h2⟩ | ⟨rfl,h1,h2⟩;{have e:aG 1 t []++32::r=60::(t++62::(32::r)):=(by simp [aG]);rw [e,zk,Kn 62 false t (32::r) (sS h1)];rfl};{have e:aG 2 t []++32::r=95::58::(t++32::r):=(by simp [aG]);obtain ⟨a,b⟩:=Du (p:=dD) (l:=t) 32 r (vS h1).2.2 (by decide);rw [e,Dk,a,b]};{have e:aG 3 t []++32::r=34::(bA t++34::(32::r)):=(by simp [aG]);rw [e,sV];unfold eB;rw [Dt];show (if (32::r:T).headD 0=64 then _ else if (32::r:T).take 3=[94,94,60] then _ else _)=_;rw [if_neg (by simp),if_neg (by simp)]};{have e:aG 4 t x++32::r=34::(bA t++34::(64::(x++32::r))):=(by simp [aG]);have hb:=sP x false 0 (by unfold lang at h1;simp at h1;exact h1.1);obtain ⟨a,b⟩:=Du (p:=eu) (l:=x) 32 r (fun c hc=>Js (hb c hc)) (by decide);rw [e,sV];unfold eB;rw [Dt];show (if (64::(x++32::r):T).headD 0=64 then some (4,t,((x++32::r).takeWhile eu).map lower,(x++32::r).dropWhile eu) else _)=_;rw [if_pos (by simp),a,b,Jt hb]};{have e:aG 5 t x++32::r=34::(bA t++34::(94::94::60::(x++62::(32::r)))):=(by simp [aG]);rw [e,sV];unfold eB;rw [Dt];show (if (94::94::60::(x++62::(32::r)):T).headD 0=64 then _ else if (94::94::60::(x++62::(32::r)):T).take 3=[94,94,60] then (bZ 62 false (x++62::(32::r))).map (fun q:T×T=>((5:Nat),t,q.1,q.2)) else _)=_;rw [if_neg (by simp),if_pos (by simp),Kn 62 false x (32::r) (sS h1)];rfl}
theorem Ko {n:Nat} {t x:T} (h:Tm.is (n:Int) t x=true):∃ (c:UInt8) (r:T),aG n t x=c::r∧(c=60∨c=95∨c=34):=by rcases sW h with ⟨rfl,rfl,h1⟩ | ⟨rfl,rfl,h1⟩ | ⟨rfl,rfl,h1⟩ | ⟨rfl,h1,h2⟩ | ⟨rfl,h1,h2⟩;{exact ⟨60,_,rfl,.inl rfl⟩};{exact ⟨95,_,rfl,.inr (.inl rfl)⟩};{exact ⟨34,_,rfl,.inr (.inr rfl)⟩};{exact ⟨34,_,rfl,.inr (.inr rfl)⟩};{exact ⟨34,_,rfl,.inr (.inr rfl)⟩}
theorem Dv {n:Nat} {t x:T} (r:T) (h:Tm.is (n:Int) t x=true):(aG n t x++r).dropWhile cK=aG n t x++r:=by obtain ⟨c,u,e,hc⟩:=Ko h;rw [e,List.cons_append,List.dropWhile_cons];rw [show cK c=false by rcases hc with rfl | rfl | rfl <;> rfl];rfl
theorem Dw {n:Nat} {t x:T} (r:T) (h:Tm.is (n:Int) t x=true):rt (aG n t x++32::r)=some ((n,t,x),r.dropWhile cK):=by unfold rt;rw [Vd r h];simp only [List.dropWhile_cons];rw [show cK 32=true from rfl];rfl
theorem Ve:∀ k:Fin 256,(esc (UInt8.ofNat k.val)).all (· != 10)=true:=by decide
theorem Vf (c:UInt8):∀ d∈esc c,d≠10:=by intro d hd;have h:=Ve ⟨c.toNat,c.toNat_lt⟩;simp only [UInt8.ofNat_toNat,List.all_eq_true] at h;simpa using h d hd
theorem zC:∀ (s:T),∀ d∈bA s,d≠10
 | [],d,h=>by simp [bA] at h
 | c::s,d,h=>by
  rw [vH,List.mem_append] at h
  rcases h with h | h
  · exact Vf c d h
  · exact zC s d h
theorem Vg {c:UInt8} (h:dD c=true):c≠10:=by rintro rfl;exact absurd h (by decide)
theorem Dx {n:Nat} {t x:T} (h:Tm.is (n:Int) t x=true):∀ d∈aG n t x,d≠10:=by rcases sW h with ⟨rfl,rfl,h1⟩ | ⟨rfl,rfl,h1⟩ | ⟨rfl,rfl,h1⟩ | ⟨rfl,h1,h2⟩ | ⟨rfl,h1,h2⟩;{have hs:=sS h1;intro d hd;have hd:d∈60::(t++[62]):=hd;simp only [List.mem_cons,List.mem_append,List.not_mem_nil,or_false] at hd;rcases hd with rfl | hd | rfl;{decide};{exact (hs d hd).2.2.1};{decide}};{intro d hd;have hd:d∈95::58::t:=hd;simp only [List.mem_cons] at hd;rcases hd with rfl | rfl | hd;{decide};{decide};{exact Vg ((vS h1).2.2 d hd)}};{intro d hd;have hd:d∈34::(bA t++[34]):=hd;simp only [List.mem_cons,List.mem_append,List.not_mem_nil,or_false] at hd;rcases hd with rfl | hd | rfl;{decide};{exact zC t d hd};{decide}};{have hb:=sP x false 0 (by unfold lang at h1;simp at h1;exact h1.1);intro d hd;have hd:d∈34::(bA t++34::64::x):=hd;simp only [List.mem_cons,List.mem_append] at hd;rcases hd with rfl | hd | rfl | rfl | hd;{decide};{exact zC t d hd};{decide};{decide};{rintro rfl;exact absurd (hb 10 hd) (by decide)}};{have hs:=sS h1;intro d hd;have hd:d∈34::(bA t++34::94::94::60::(x++[62])):=hd;simp only [List.mem_cons,List.mem_append,List.not_mem_nil,or_false] at hd;rcases hd with rfl | hd | rfl | rfl | rfl | rfl | hd | rfl;{decide};{exact zC t d hd};{decide};{decide};{decide};{decide};{exact (hs d hd).2.2.1};{decide}}
def dR (p:T3×T3×T3):T:=aG p.1.1 p.1.2.1 p.1.2.2++32::(aG p.2.1.1 p.2.1.2.1 p.2.1.2.2++32::(aG p.2.2.1 p.2.2.2.1 p.2.2.2.2++32::[46]))
theorem Vh {p:T3×T3×T3} (h:aN p=true):∀ d∈dR p,d≠10:=by obtain ⟨⟨n1,t1,x1⟩,⟨n2,t2,x2⟩,⟨n3,t3,x3⟩⟩:=p;unfold aN bX at h;simp only [Bool.and_eq_true] at h;obtain ⟨_,⟨h1,h2⟩,h3⟩:=h;intro d hd;unfold dR at hd;simp only [List.mem_cons,List.mem_append,List.not_mem_nil,or_false] at hd;rcases hd with hd | rfl | hd | rfl | hd | rfl | rfl;{exact Dx h1 d hd};{decide};{exact Dx h2 d hd};{decide};{exact Dx h3 d hd};{decide};{decide}
theorem Vi (p:T3×T3×T3):∃ u,dR p=u++[46]:=
 ⟨aG p.1.1 p.1.2.1 p.1.2.2++32::(aG p.2.1.1 p.2.1.2.1 p.2.1.2.2++32::(aG p.2.2.1 p.2.2.2.1 p.2.2.2.2++[32])),by simp [dR]⟩
theorem Kq:∀ (s r:T),(∀ d∈s,d≠10)→Lib.index (s++10::r) [10]=s.length
 | [],r,_=>Jk 10 r
 | d::s,r,h=>by
  have ih:=Kq s r (fun e he=>h e (by simp [he]))
  rw [List.cons_append,Jj (h d (by simp)),ih]
  rw [if_neg (by simp)]
  simp
theorem Vj (s r:T) (h:∀ d∈s,d≠10):Lib.cut (s++10::r) [10]=(s,r,true):=by unfold Lib.cut;rw [Kq s r h,if_pos (by omega)];simp
theorem Vk (u:T):Lib.trimSuffix (u++[46]) [13]=u++[46]:=by unfold Lib.trimSuffix;rw [if_neg];simp [Lib.hasSuffix]
theorem Kr {p:T3×T3×T3} (h:aN p=true):one (dR p)=some (some p):=by
 obtain ⟨⟨n1,t1,x1⟩,⟨n2,t2,x2⟩,⟨n3,t3,x3⟩⟩:=p;have h':=h;unfold aN bX at h';simp only [Bool.and_eq_true] at h';obtain ⟨_,⟨h1,h2⟩,h3⟩:=h';have hv:Lib.validD (dR ((n1,t1,x1),(n2,t2,x2),(n3,t3,x3)))=true:=by unfold dR;exact pF (Dn h1) (je (by decide) (pF (Dn h2) (je (by decide) (pF (Dn h3) (je (by decide) (je (by decide) rfl))))))
 have hd:(dR ((n1,t1,x1),(n2,t2,x2),(n3,t3,x3))).dropWhile cK=dR ((n1,t1,x1),(n2,t2,x2),(n3,t3,x3)):=Dv _ h1;unfold one;rw [if_neg (by rw [hv];decide),hd,if_neg];{unfold kY;have e1:rt (dR ((n1,t1,x1),(n2,t2,x2),(n3,t3,x3)))=some ((n1,t1,x1),aG n2 t2 x2++32::(aG n3 t3 x3++32::[46])):=(by unfold dR;rw [Dw _ h1,Dv _ h2]);have e2:rt (aG n2 t2 x2++32::(aG n3 t3 x3++32::[46]))=some ((n2,t2,x2),aG n3 t3 x3++32::[46]):=(by rw [Dw _ h2,Dv _ h3]);have e3:rt (aG n3 t3 x3++32::[46])=some ((n3,t3,x3),[46]):=(by rw [Dw _ h3];rfl);rw [e1];simp only;rw [e2];simp only;rw [e3];simp only;rw [show point [46]=some [] from rfl];simp only;rw [if_pos ⟨rfl,h⟩]};{obtain ⟨c,u,e,hc⟩:=Ko h1;unfold dR iH;simp only;rw [e,List.cons_append];rcases hc with rfl | rfl | rfl <;> simp}
def fu (s:T):T×T:=if (Lib.cut s [10]).2.2=true then (Lib.trimSuffix (Lib.cut s [10]).1 [13],(Lib.cut s [10]).2.1) else ((Lib.cut s [10]).1,(Lib.cut s [10]).2.1)
theorem Dy {s:T} (h:s≠[]):(fu s).2.length<s.length:=by
 have hl:0<s.length:=by cases s with
  | nil=>exact absurd rfl h
  | cons _ _=>simp
 unfold fu Lib.cut;split;{simp only [if_true,List.length_drop,List.length_cons,List.length_nil];omega};{simp only;exact hl}
theorem Vl (s:T):(fu s).1.length≤s.length:=by
 have h1:(Lib.cut s [10]).1.length≤s.length:=by unfold Lib.cut;split;{simp only [List.length_take];omega};{exact Nat.le_refl _}
 have h2:∀ a:T,(Lib.trimSuffix a [13]).length≤a.length:=by intro a;unfold Lib.trimSuffix;split;{simp only [List.length_take];omega};{exact Nat.le_refl _}
 unfold fu;split;{exact Nat.le_trans (h2 _) h1};{exact h1}
def pl:Nat→T→Nat→List (T3×T3×T3)→Nat×Nat×List (T3×T3×T3)
 | 0,_,n,l=>(0,n,l)
 | f+1,s,n,l=>if s=[] then (0,n,l) else if 200<n+1 then (3,n+1,[]) else match one (fu s).1 with
  | none=>(2,n+1,[])
  | some none=>pl f (fu s).2 (n+1) l
  | some (some t)=>if t∈l then pl f (fu s).2 (n+1) l else if l.length=100 then (3,n+1,[]) else pl f (fu s).2 (n+1) (l++[t])
theorem zD:∀ (f g:Nat) (s:T) (n:Nat) (l:List (T3×T3×T3)),s.length<f→s.length<g→pl f s n l=pl g s n l
 | 0,g,s,n,l,h,_=>by omega
 | f+1,0,s,n,l,_,h=>by omega
 | f+1,g+1,s,n,l,hf,hg=>by
  unfold pl
  by_cases h:s=[]
  · rw [if_pos h,if_pos h]
  · have hc:=Dy h
    rw [if_neg h,if_neg h]
    split
    · rfl
    · cases one (fu s).1 with
      | none=>rfl
      | some o=>
       cases o with
       | none=>exact zD f g _ _ _ (by omega) (by omega)
       | some t=>
        simp only
        split
        · exact zD f g _ _ _ (by omega) (by omega)
        · split
          · rfl
          · exact zD f g _ _ _ (by omega) (by omega)
def gq (s:T) (n:Nat) (l:List (T3×T3×T3)):Nat×Nat×List (T3×T3×T3):=pl (s.length+1) s n l
theorem Kt (n:Nat) (l:List (T3×T3×T3)):gq [] n l=(0,n,l):=rfl
theorem Ku {s:T} (h:s≠[]) (n:Nat) (l:List (T3×T3×T3)):gq s n l=if 200<n+1 then (3,n+1,[]) else match one (fu s).1 with
  | none=>(2,n+1,[])
  | some none=>gq (fu s).2 (n+1) l
  | some (some t)=>if t∈l then gq (fu s).2 (n+1) l else if l.length=100 then (3,n+1,[]) else gq (fu s).2 (n+1) (l++[t]):=by have hc:=Dy h;have e:∀ m k,pl s.length (fu s).2 m k=gq (fu s).2 m k:=fun m k=>zD _ _ _ _ _ hc (by omega);unfold gq;rw [pl,if_neg h];simp only [e];rfl
def jg (a1 a2 a3 b1 b2 b3:T):Int:=if cmp a1 b1=0 then (if cmp a2 b2=0 then cmp a3 b3 else cmp a2 b2) else cmp a1 b1
theorem Vm (a1 a2 a3 b1 b2 b3:T):jg b1 b2 b3 a1 a2 a3 = - jg a1 a2 a3 b1 b2 b3:=by
 unfold jg;rw [iT a1 b1,iT a2 b2,iT a3 b3];repeat' split
 all_goals omega
theorem Vn (a1 a2 a3 b1 b2 b3:T):jg a1 a2 a3 b1 b2 b3=0↔(a1=b1∧a2=b2∧a3=b3):=by
 rw [←kV,←kV,←kV];unfold jg;repeat' split
 all_goals omega
theorem Kv {a b c:T} (h1:cmp a b<0) (h2:cmp b c≤0):cmp a c<0:=by have h:=vG (a:=a) (b:=b) (c:=c) (by omega) h2;rcases (show cmp a c=0∨cmp a c<0 by omega) with h0 | h0;{rw [kV.1 h0] at h1;have:=iT b c;omega};{exact h0}
theorem Vo {a1 a2 a3 b1 b2 b3 c1 c2 c3:T} (h1:jg a1 a2 a3 b1 b2 b3≤0) (h2:jg b1 b2 b3 c1 c2 c3≤0):jg a1 a2 a3 c1 c2 c3≤0:=by unfold jg at *;by_cases e1:cmp a1 b1=0;{rw [if_pos e1] at h1;obtain rfl:=kV.1 e1;by_cases e2:cmp a1 c1=0;{rw [if_pos e2] at h2 ⊢;by_cases e3:cmp a2 b2=0;{rw [if_pos e3] at h1;obtain rfl:=kV.1 e3;by_cases e4:cmp a2 c2=0;{rw [if_pos e4] at h2 ⊢;exact vG h1 h2};{rw [if_neg e4] at h2 ⊢;exact h2}};{rw [if_neg e3] at h1;by_cases e4:cmp b2 c2=0;{obtain rfl:=kV.1 e4;rw [if_neg e3];exact h1};{rw [if_neg e4] at h2;have:=Kv (show cmp a2 b2<0 by omega) h2;rw [if_neg (by omega)];omega}}};{rw [if_neg e2] at h2 ⊢;exact h2}};{rw [if_neg e1] at h1;by_cases e2:cmp b1 c1=0;{obtain rfl:=kV.1 e2;rw [if_neg e1];exact h1};{rw [if_neg e2] at h2;have:=Kv (show cmp a1 b1<0 by omega) h2;rw [if_neg (by omega)];omega}}
abbrev TT:=T3×T3×T3
theorem Vp {p:TT} (h:aN p=true) (r:T):fu (dR p++10::r)=(dR p,r):=by unfold fu;rw [Vj (dR p) r (Vh h)];simp only [if_true];obtain ⟨u,hu⟩:=Vi p;rw [hu,Vk]
def dY (l:List TT):T:=l.flatMap fun p=>dR p++[10]
theorem Kw (p:TT) (l:List TT):dY (p::l)=dR p++10::dY l:=by simp [dY]
theorem Ky (l:List TT) (p:TT):dY (l++[p])=dY l++(dR p++[10]):=by simp [dY]
def gU (a:List TT) (t:TT):List TT:=if t∈a then a else a++[t]
def fM (a l:List TT):List TT:=l.foldl gU a
theorem Kz (a:List TT) (t:TT):(gU a t).length≤a.length+1:=by unfold gU;split;{omega};{simp}
theorem Vq (a:List TT) (t x:TT):x∈gU a t↔x∈a∨x=t:=by unfold gU;split;{rename_i h;constructor;{exact Or.inl};{rintro (h1 | rfl);{exact h1};{exact h}}};{simp}
theorem vT:∀ (l a:List TT) (x:TT),x∈fM a l↔x∈a∨x∈l
 | [],a,x=>by simp [fM]
 | t::l,a,x=>by
  have ih:=vT l (gU a t) x
  show x∈fM (gU a t) l↔_
  rw [ih,Vq,List.mem_cons]
  constructor
  · rintro ((h | h) | h)
    · exact .inl h
    · exact .inr (.inl h)
    · exact .inr (.inr h)
  · rintro (h | h | h)
    · exact .inl (.inl h)
    · exact .inl (.inr h)
    · exact .inr h
theorem Vr {p:TT} (h:aN p=true) (r:T) (n:Nat) (acc:List TT) (hn:n+1≤200) (ha:acc.length<100):gq (dR p++10::r) n acc=gq r (n+1) (gU acc p):=by
 have hne:(dR p++10::r)≠[]:=by simp
 rw [Ku hne,if_neg (by omega),Vp h r,Kr h];simp only;unfold gU;split;{rfl};{rw [if_neg (by omega)]}
theorem KA:∀ (l:List TT) (r:T) (n:Nat) (acc:List TT),(∀ t∈l,aN t=true)→n+l.length≤200→acc.length+l.length≤100→gq (dY l++r) n acc=gq r (n+l.length) (fM acc l)
 | [],r,n,acc,_,_,_=>rfl
 | p::l,r,n,acc,h,hn,ha=>by
  simp only [List.length_cons] at hn ha
  have hl:=Kz acc p
  rw [Kw,List.append_assoc,List.cons_append,Vr (h p (by simp)) _ _ _ (by omega) (by omega)]
  rw [KA l r (n+1) (gU acc p) (fun t ht=>h t (by simp [ht])) (by omega) (by omega)]
  rw [List.length_cons,show n+1+l.length=n+(l.length+1) by omega]
  rfl
def bD (p q:TT):Int:=jg (aG p.1.1 p.1.2.1 p.1.2.2) (aG p.2.1.1 p.2.1.2.1 p.2.1.2.2) (aG p.2.2.1 p.2.2.2.1 p.2.2.2.2) (aG q.1.1 q.1.2.1 q.1.2.2) (aG q.2.1.1 q.2.1.2.1 q.2.1.2.2) (aG q.2.2.1 q.2.2.2.1 q.2.2.2.2)
theorem mR {p:TT} (h:aN p=true):(p.1.1=1∨p.1.1=2)∧p.2.1.1=1∧is (p.1.1:Int) p.1.2.1 p.1.2.2=true∧is (p.2.1.1:Int) p.2.1.2.1 p.2.1.2.2=true∧is (p.2.2.1:Int) p.2.2.2.1 p.2.2.2.2=true:=by unfold aN bX at h;simp only [Bool.and_eq_true,decide_eq_true_eq] at h;exact ⟨h.1.1,h.1.2,h.2.1.1,h.2.1.2,h.2.2⟩
theorem Dz {p q:TT} (hp:aN p=true) (hq:aN q=true):bD p q=0↔p=q:=by obtain ⟨_,_,a1,a2,a3⟩:=mR hp;obtain ⟨_,_,b1,b2,b3⟩:=mR hq;obtain ⟨⟨n1,t1,x1⟩,⟨n2,t2,x2⟩,⟨n3,t3,x3⟩⟩:=p;obtain ⟨⟨m1,u1,y1⟩,⟨m2,u2,y2⟩,⟨m3,u3,y3⟩⟩:=q;unfold bD;rw [Vn];simp only at a1 a2 a3 b1 b2 b3 ⊢;rw [zw a1 b1,zw a2 b2,zw a3 b3];simp only [Prod.mk.injEq]
theorem lW (p q:TT):bD q p = - bD p q:=by unfold bD;exact Vm _ _ _ _ _ _
theorem DC {p q r:TT} (h1:bD p q≤0) (h2:bD q r≤0):bD p r≤0:=by unfold bD at *;exact Vo h1 h2
theorem DF {p q r:TT} (h1:bD p q<0) (h2:bD q r<0):bD p r<0:=by have h:=DC (Int.le_of_lt h1) (Int.le_of_lt h2);rcases Int.lt_or_eq_of_le h with h3 | h3;{exact h3};{exfalso;have h4:bD r p≤0:=(by rw [lW p r,h3];decide);have h5:=DC (Int.le_of_lt h2) h4;have:=lW p q;omega}
def dH (l:List TT):Prop:=l.Pairwise fun a b=>bD a b<0
theorem vU:∀ {l m:List TT},dH l→dH m→(∀ t,t∈l↔t∈m)→l=m
 | [],[],_,_,_=>rfl
 | [],b::m,_,_,h=>absurd ((h b).2 (by simp)) (by simp)
 | a::l,[],_,_,h=>absurd ((h a).1 (by simp)) (by simp)
 | a::l,b::m,hl,hm,h=>by
  obtain ⟨h1,h2⟩:=List.pairwise_cons.1 hl
  obtain ⟨k1,k2⟩:=List.pairwise_cons.1 hm
  have hself:∀ t,¬ bD t t<0:=fun t ht=>by have:=lW t t;omega
  have e:a=b:=by
   have ha:=(h a).1 (by simp)
   have hb:=(h b).2 (by simp)
   rcases List.mem_cons.1 ha with e | ha
   · exact e
   · rcases List.mem_cons.1 hb with e | hb
     · exact e.symm
     · exact absurd (DF (k1 a ha) (h1 b hb)) (hself b)
  subst e
  rw [vU h2 k2 fun t=>?_]
  constructor
  · intro ht
    rcases List.mem_cons.1 ((h t).1 (by simp [ht])) with rfl | h3
    · exact absurd (h1 t ht) (hself t)
    · exact h3
  · intro ht
    rcases List.mem_cons.1 ((h t).2 (by simp [ht])) with rfl | h3
    · exact absurd (k1 t ht) (hself t)
    · exact h3
def put (l:List TT) (t:TT):List TT:=if ((l.dropWhile fun a=>decide (bD a t<0)).head?==some t)=true then l else (l.takeWhile fun a=>decide (bD a t<0))++t::l.dropWhile fun a=>decide (bD a t<0)
def dJ (l:List TT):List TT:=l.foldl put []
theorem put_mem (l:List TT) (t x:TT):x∈put l t↔x∈l∨x=t:=by
 have e:=List.takeWhile_append_dropWhile (p:=fun a=>decide (bD a t<0)) (l:=l);unfold put;split;{rename_i h;constructor;{exact .inl};{rintro (h1 | rfl);{exact h1};{rw [←e];have:=List.mem_of_mem_head? (Option.mem_def.2 (eq_of_beq h));exact List.mem_append_right _ this}}}
 · conv=>rhs;rw [←e]
   simp only [List.mem_append,List.mem_cons];constructor;{rintro (h1 | h1 | h1);{exact .inl (.inl h1)};{exact .inr h1};{exact .inl (.inr h1)}};{rintro ((h1 | h1) | h1);{exact .inl h1};{exact .inr (.inr h1)};{exact .inr (.inl h1)}}
theorem DI {l:List TT} {t:TT} (hl:dH l) (hv:∀ a∈l,aN a=true) (ht:aN t=true):dH (put l t):=by
 have e:=List.takeWhile_append_dropWhile (p:=fun a=>decide (bD a t<0)) (l:=l);unfold put;split;{exact hl}
 · rename_i h;have hp:dH (l.takeWhile (fun a=>decide (bD a t<0))++l.dropWhile (fun a=>decide (bD a t<0))):=(by rw [e];exact hl);obtain ⟨p1,p2,p3⟩:=List.pairwise_append.1 hp;have hlo:∀ a∈l.takeWhile (fun a=>decide (bD a t<0)),bD a t<0:=fun a ha=>(by have h1:(l.takeWhile (fun a=>decide (bD a t<0))).all (fun a=>decide (bD a t<0))=true:=List.all_takeWhile;simpa using List.all_eq_true.1 h1 a ha);have hhi:∀ b∈l.dropWhile (fun a=>decide (bD a t<0)),bD t b<0:=by
    obtain ⟨d,hd⟩:∃ d,d=l.dropWhile (fun a=>decide (bD a t<0)):=⟨_,rfl⟩;rw [←hd] at h p2 p3 ⊢;cases d with
    | nil=>intro b hb;cases hb
    | cons c d=>have hc:¬ bD c t<0:=(by have:=List.head?_dropWhile_not (fun a=>decide (bD a t<0)) l;rw [←hd] at this;simpa using this);have hcm:c∈l:=(by rw [←e,←hd];simp);have hne:c≠t:=fun e=>h (by rw [e];exact beq_self_eq_true _);have h0:bD c t≠0:=fun h0=>hne ((Dz (hv c hcm) ht).1 h0);have hn:=lW c t;have hct:bD t c<0:=(by omega);intro b hb;rcases List.mem_cons.1 hb with rfl | hb;{exact hct};{exact DF hct ((List.pairwise_cons.1 p2).1 b hb)}
   refine List.pairwise_append.2 ⟨p1,List.pairwise_cons.2 ⟨hhi,p2⟩,fun a ha b hb=>?_⟩;rcases List.mem_cons.1 hb with rfl | hb;{exact hlo a ha};{exact p3 a ha b hb}
theorem qP:∀ (l a:List TT),dH a→(∀ t∈a,aN t=true)→(∀ t∈l,aN t=true)→dH (l.foldl put a)∧∀ x,x∈l.foldl put a↔x∈a∨x∈l
 | [],a,hs,_,_=>⟨hs,fun x=>by simp⟩
 | t::l,a,hs,ha,hl=>by
  obtain ⟨h1,h2⟩:=qP l (put a t) (DI hs ha (hl t (by simp))) (fun x hx=>by
   rcases (put_mem a t x).1 hx with h | rfl
   · exact ha x h
   · exact hl x (by simp)) (fun x hx=>hl x (by simp [hx]))
  refine ⟨h1,fun x=>?_⟩
  rw [List.foldl_cons,h2 x,put_mem,List.mem_cons]
  constructor
  · rintro ((h | h) | h)
    · exact .inl h
    · exact .inr (.inl h)
    · exact .inr (.inr h)
  · rintro (h | h | h)
    · exact .inl (.inl h)
    · exact .inl (.inr h)
    · exact .inr h
theorem zF {l:List TT} (hl:∀ t∈l,aN t=true):dH (dJ l):=(qP l [] List.Pairwise.nil (by simp) hl).1
theorem DJ {l:List TT} (hl:∀ t∈l,aN t=true) (x:TT):x∈dJ l↔x∈l:=by have:=(qP l [] List.Pairwise.nil (by simp) hl).2 x;unfold dJ;simpa using this
theorem DK {l:List TT} (hl:∀ t∈l,aN t=true):∀ t∈dJ l,aN t=true:=fun t ht=>hl t ((DJ hl t).1 ht)
theorem vV {l m:List TT} (hl:∀ t∈l,aN t=true) (hm:dH m) (h:∀ t,t∈m↔t∈l):m=dJ l:=
 vU hm (zF hl) fun t=>by rw [h,DJ hl]
theorem Vs {l m:List TT} (hl:∀ t∈l,aN t=true) (h:∀ t,t∈m↔t∈l):dJ m=dJ l:=
 vV hl (zF fun t ht=>hl t ((h t).1 ht)) fun t=>by rw [DJ (fun t ht=>hl t ((h t).1 ht)),h]
theorem Vt {l:List TT} (hl:∀ t∈l,aN t=true):dJ (fM [] l)=dJ l:=Vs hl fun t=>by simp [vT]
theorem vW (l:List TT) (t:TT):(put l t).length≤l.length+1:=by have e:=congrArg List.length (List.takeWhile_append_dropWhile (p:=fun a=>decide (bD a t<0)) (l:=l));unfold put;split;{omega};{simp only [List.length_append,List.length_cons] at *;omega}
theorem vX:∀ (l a:List TT),(l.foldl put a).length≤a.length+l.length
 | [],a=>by simp
 | t::l,a=>by
  have:=vX l (put a t)
  have h:=vW a t
  rw [List.foldl_cons,List.length_cons];omega
theorem DR (l:List TT):(dJ l).length≤l.length:=by have:=vX l [];simpa [dJ] using this
end Go.Proofs.YtjaebndajhppgaaGreatDoor.Tm
namespace Go.Proofs.YtjaebndajhppgaaGreatDoor
open Go.ChangeShapes Go.WideShapes Go.ChangeAt Go.RowKit
def kZ:List UInt8:=[34,92,10,13,9,8,12]
def pG:List UInt8:=[34,92,110,114,116,98,102]
theorem Vu:∀ k:Fin 7,Tm.esc (kZ.getD k.val 0)=[92,pG.getD k.val 0]:=by decide
theorem Vv {c:UInt8} (h:∀ j,j<7→kZ.getD j 0≠c):qN c:=by have e:∀ j,j<7→c.toNat≠(kZ.getD j 0).toNat:=fun j hj he=>h j hj (UInt8.toNat_inj.1 he.symm);exact ⟨e 0 (by omega),e 1 (by omega),e 2 (by omega),e 3 (by omega),e 4 (by omega),e 5 (by omega),e 6 (by omega)⟩
theorem KC (k:Nat) (h:k<16):(⟨#[48,49,50,51,52,53,54,55,56,57,65,66,67,68,69,70]⟩:ByteArray).extract k (k+1)=⟨#[Tm.fB k]⟩:=by
 have:∀ k:Fin 16,((⟨#[48,49,50,51,52,53,54,55,56,57,65,66,67,68,69,70]⟩:ByteArray).extract k.val (k.val+1)).data.toList=[Tm.fB k.val]:=by decide +kernel
 apply ByteArray.ext;apply Array.ext';exact this ⟨k,h⟩
theorem Vw (s:List UInt8) (w:World) (hl:s.length≤1000000000) :
  Calls Tryz.prog 107 #[str s] w fun e w'=>e=.returned (str (Tm.bA s))∧∃ q,w'=w.drewN q:=by
 go_enter Tryz.func107,Tryz.ntmps107;go_wp2;go_loopw [6,7,8,9] (fun s6 s7 _ _ wr=>∃ i:Nat,i≤s.length∧s7=.int .i64 i∧s6=str (Tm.bA (s.take i))∧Hid (∃ q,wr=w.drewN q)) (fun _ s7 _ _ _=>s.length-(intOf s7).toNat)
 case atStart=>exact ⟨0,by omega,rfl,rfl,0,rfl⟩
 case round=>
  obtain ⟨i,hi,rfl,rfl,HQ⟩:=hrel;obtain ⟨q0,hq0⟩:=HQ.out;subst hq0;clear HQ;have hle:=Tm.kW (s.take i);rw [List.length_take] at hle;by_cases hlt:i<s.length
  · obtain ⟨c,hc⟩:∃ c,s[i]?=some c:=⟨_,List.getElem?_eq_getElem hlt⟩;have hcc:=fun q=>gG s i c hc q;have HS:=hid (JH s i c hc);have af9:(⟨s.toArray⟩:ByteArray).extract i (i+1)=⟨[c].toArray⟩:=(by rw [qJ,show i+1-i=1 by omega];obtain ⟨hl2,e2⟩:=List.getElem?_eq_some_iff.1 hc;rw [List.drop_eq_getElem_cons hl2,e2];rfl);obtain ⟨out,hout⟩:∃ o,o=Tm.bA (s.take i):=⟨_,rfl⟩;have HO:=hid hout;rw [←hout] at hle HS ⊢;have hol:out.length≤6000000000:=(by omega);have hc256:c.toNat<256:=c.toNat_lt;clear hc hout hle;obtain ⟨W,hW⟩:∃ W,W=w.drewN q0:=⟨_,rfl⟩;have HW:=hid hW;rw [←hW];clear hW;go_wp2;go_loop [9] (fun s9=>∃ k:Nat,k≤7∧s9=.int .i64 k∧Hid (∀ j,j<k→kZ.getD j 0≠c)) (fun s9=>7-(intOf s9).toNat)
    (case atStart=>exact ⟨0,by omega,rfl,fun j hj=>by omega⟩);case round=>
     obtain ⟨k,hk,rfl,HN⟩:=hrel;by_cases DT:k<7
     · have g1:kZ[k]?=some (kZ.getD k 0):=(by have:k<kZ.length:=DT;simp [List.getD,this]);have g2:pG[k]?=some (pG.getD k 0):=(by have:k<pG.length:=DT;simp [List.getD,this]);have KD:=fun q=>gG kZ k _ g1 q;have ht2:(⟨pG.toArray⟩:ByteArray).extract k (k+1)=⟨[pG.getD k 0].toArray⟩:=(by rw [qJ,show k+1-k=1 by omega];obtain ⟨hl2,e2⟩:=List.getElem?_eq_some_iff.1 g2;rw [List.drop_eq_getElem_cons hl2,e2];rfl);have HD:=hid (Vu ⟨k,DT⟩);have KE:=hid (show kZ.getD k 0≠c→∀ j,j<k+1→kZ.getD j 0≠c from fun hne j hj=>by
        by_cases he:j=k;{rw [he];exact hne}
        · exact HN.out j (by omega))
       obtain ⟨d,hd⟩:∃ d,d=kZ.getD k 0:=⟨_,rfl⟩;obtain ⟨f,hf⟩:∃ f,f=pG.getD k 0:=⟨_,rfl⟩;simp only at HD;rw [←hd] at KD KE HD;rw [←hf] at ht2 HD;unfold kZ at KD;unfold pG at ht2;have hkz:(k:Int)<7:=(by omega);have hk0:(0:Int)≤(k:Int):=(by omega);clear hd hf g1 g2 HN;by_cases hcd:d=c
       · subst hcd;have be:((d.toNat:Int) != (d.toNat:Int))=false:=(by simp);have HF:=hid (show Tm.bA (s.take (i+1))=out++[92,f] by rw [HS.out,HD.out]);have ha1:(⟨out.toArray⟩++⟨#[92]⟩:ByteArray)=⟨(out++[92]).toArray⟩:=fC out [92];have ha2:(⟨(out++[92]).toArray⟩++⟨[f].toArray⟩:ByteArray)=⟨(out++[92]++[f]).toArray⟩:=fC _ _;clear HS;go_wp2;go_roundw
         (case rel=>exact ⟨i+1,by omega,by go_num,by rw [HF.out] <;> simp [fC],q0,HW.out⟩);case measure=>simp [intOf];omega
       · have be:((d.toNat:Int) != (c.toNat:Int))=true:=(by rw [bne_iff_ne];intro e;exact hcd (UInt8.toNat_inj.1 (by omega)));have Vx:=hid (KE.out hcd);clear hcd;go_wp2;go_round
         (case rel=>exact ⟨k+1,by omega,by go_num,Vx⟩);case measure=>simp [intOf];omega
     · obtain rfl:k=7:=(by omega);have hnf:=Vv HN.out;clear HN;by_cases hlo:c.toNat<32∨c.toNat=127
       · have HF:=hid (show Tm.bA (s.take (i+1))=out++[92,117,48,48,Tm.fB (c.toNat / 16),Tm.fB (c.toNat % 16)] by rw [HS.out,JE c hnf hlo]);have hand:bits BinOp.and IntKind.u8 (c.toNat:Int) 15=((c.toNat % 16:Nat):Int):=(by have:=u8_and_nat c.toNat 15 (by omega) (by omega);rw [show (15:Int)=((15:Nat):Int) from rfl,this,show c.toNat &&& 15=c.toNat % 16 from Nat.and_two_pow_sub_one_eq_mod c.toNat 4]);have hsh:(c.toNat:Int) / 16=((c.toNat / 16:Nat):Int):=(by omega);have hq:c.toNat / 16<16:=(by omega);have hr:c.toNat % 16<16:=(by omega);obtain ⟨k1,hk1⟩:∃ k,k=c.toNat / 16:=⟨_,rfl⟩;obtain ⟨k2,hk2⟩:∃ k,k=c.toNat % 16:=⟨_,rfl⟩;rw [←hk1] at hsh hq HF;rw [←hk2] at hand hr HF;have hx1:=KC k1 hq;have hx2:=KC k2 hr;have hqz:(k1:Int)<16:=(by omega);have hrz:(k2:Int)<16:=(by omega);have TD:(0:Int)≤(k1:Int):=(by omega);have TF:(0:Int)≤(k2:Int):=(by omega);have hwq:IntKind.u8.wrap ((k1:Int)+1)=(k1:Int)+1:=(by rw [IntKind.wrap_u8'];omega);have hwr:IntKind.u8.wrap ((k2:Int)+1)=(k2:Int)+1:=(by rw [IntKind.wrap_u8'];omega);have ha1:(⟨out.toArray⟩++⟨#[92,117,48,48]⟩:ByteArray)=⟨(out++[92,117,48,48]).toArray⟩:=fC out _;have ha2:(⟨(out++[92,117,48,48]).toArray⟩++⟨#[Tm.fB k1]⟩:ByteArray)=⟨(out++[92,117,48,48]++[Tm.fB k1]).toArray⟩:=fC _ _;have ha3:(⟨(out++[92,117,48,48]++[Tm.fB k1]).toArray⟩++⟨#[Tm.fB k2]⟩:ByteArray)=⟨(out++[92,117,48,48]++[Tm.fB k1]++[Tm.fB k2]).toArray⟩:=fC _ _;clear hk1 hk2 HS hnf;rcases hlo with hlo | hlo
         · have b1:decide ((c.toNat:Int)<32)=true:=(by simp;omega);go_wp2;(go_quiet (fail));go_wp2;go_roundw
           (case rel=>exact ⟨i+1,by omega,by go_num,by rw [HF.out] <;> simp [fC],q0+nq,by rw [HW.out,World.drewN_drewN]⟩);case measure=>simp [intOf];omega
         · have b1:((c.toNat:Int)==127)=true:=beq_iff_eq.2 (by omega);have h32:32≤c.toNat:=(by omega);clear hlo;go_wp2;(go_quiet (fail));go_wp2;go_roundw
           (case rel=>exact ⟨i+1,by omega,by go_num,by rw [HF.out] <;> simp [fC],q0+nq,by rw [HW.out,World.drewN_drewN]⟩);case measure=>simp [intOf];omega
       · have HF:=hid (show Tm.bA (s.take (i+1))=out++[c] by rw [HS.out,JF c hnf (by omega)]);have b1:((c.toNat:Int)==127)=false:=beq_eq_false_iff_ne.2 (by omega);have h32:32≤c.toNat:=(by omega);have ha1:(⟨out.toArray⟩++⟨[c].toArray⟩:ByteArray)=⟨(out++[c]).toArray⟩:=fC out _;clear HS hnf hlo;go_wp2;go_roundw
         (case rel=>exact ⟨i+1,by omega,by go_num,by rw [HF.out],q0,HW.out⟩);case measure=>simp [intOf];omega
  {obtain rfl:i=s.length:=(by omega);have HF:=hid (show Tm.bA (s.take s.length)=Tm.bA s by rw [List.take_length]);go_wp2;go_ret;exact ⟨by rw [←HF.out];rfl,q0,rfl⟩}
theorem tC (k:Nat) (t x:List UInt8) (W:World) (hk:1≤k∧k≤5) (ht:t.length≤1000000000) (hx:x.length≤1000000000) :
  Calls Tryz.prog 63 #[bY (k:Nat) t x] W fun e W'=>e=.returned (str (Tm.aG k t x))∧Below W.heap.size W W':=by
 have ES:=hid (fun w=>Vw t w ht);have hle:=Tm.kW t;obtain ⟨z,hz⟩:∃ z,z=Tm.bA t:=⟨_,rfl⟩;have HZ:=hid hz;rw [←hz] at ES hle;have hzl:z.length≤6000000000:=by omega
 clear hz hle;rcases (show k=1∨k=2∨k=3∨k=4∨k=5 by omega) with rfl | rfl | rfl | rfl | rfl;{go_enter Tryz.func63,Tryz.ntmps63;go_wp2;go_ret;exact ⟨by simp [Tm.aG,fC],(Below.refl _ _).alloc (Nat.le_refl _) _⟩};{go_enter Tryz.func63,Tryz.ntmps63;go_wp2;go_ret;exact ⟨by simp [Tm.aG,fC],(Below.refl _ _).alloc (Nat.le_refl _) _⟩};{go_enter Tryz.func63,Tryz.ntmps63;(go_wp2_with (go_at_call 107;refine (ES.out _).mono ?_;rintro e w' ⟨rfl,q,rfl⟩));go_ret;exact ⟨by rw [show Tm.aG 3 t x=34::(Tm.bA t++[34]) from rfl,←HZ.out];simp [fC],aX ((Below.refl _ _).alloc (Nat.le_refl _) _) q⟩};{go_enter Tryz.func63,Tryz.ntmps63;(go_wp2_with (go_at_call 107;refine (ES.out _).mono ?_;rintro e w' ⟨rfl,q,rfl⟩));go_ret;exact ⟨by rw [show Tm.aG 4 t x=34::(Tm.bA t++34::64::x) from rfl,←HZ.out];simp [fC],aX ((Below.refl _ _).alloc (Nat.le_refl _) _) q⟩};{go_enter Tryz.func63,Tryz.ntmps63;(go_wp2_with (go_at_call 107;refine (ES.out _).mono ?_;rintro e w' ⟨rfl,q,rfl⟩));go_ret;exact ⟨by rw [show Tm.aG 5 t x=34::(Tm.bA t++34::94::94::60::(x++[62])) from rfl,←HZ.out];simp [fC],aX ((Below.refl _ _).alloc (Nat.le_refl _) _) q⟩}
theorem KF (a:List UInt8) (w:World):Calls Tryz.prog 189 #[str a] w fun e w'=>e=.returned (.bool false)∧w'=w:=by
 have h:(a != a)=false:=by simp
 go_enter Tryz.func189,Tryz.ntmps189;go_wp2;go_ret;exact ⟨rfl,rfl⟩
theorem Vy (a b:List UInt8) (w:World):Calls Tryz.prog 145 #[str a,str b] w fun e w'=>e=.returned (.int .i64 (Tm.cmp a b))∧w'=w:=by
 have N1:=hid fun w=>KF a w;have N2:=hid fun w=>KF b w;go_enter Tryz.func145,Tryz.ntmps145;go_wp2_with fail
 refine (N1.out _).mono ?_;rintro e w' ⟨rfl,rfl⟩;go_wp2_with fail
 refine (N2.out _).mono ?_;rintro e w' ⟨rfl,rfl⟩;rcases (show (Tm.lt a b=true)∨(Tm.lt a b=false∧Tm.lt b a=true)∨(Tm.lt a b=false∧Tm.lt b a=false) by cases Tm.lt a b <;> cases Tm.lt b a <;> simp) with h | ⟨h,h'⟩ | ⟨h,h'⟩;{have HC:=hid (show Tm.cmp a b = -1 by unfold Tm.cmp;rw [h];rfl);go_wp2;go_ret;exact ⟨by rw [HC.out];rfl,rfl⟩};{have HC:=hid (show Tm.cmp a b=1 by unfold Tm.cmp;rw [h,h'];rfl);have he:(a==b)=false:=beq_eq_false_iff_ne.2 (fun e=>by rw [e,Tm.lt_irrefl] at h';cases h');go_wp2;go_ret;exact ⟨by rw [HC.out];rfl,rfl⟩};{have HC:=hid (show Tm.cmp a b=0 by unfold Tm.cmp;rw [h,h'];rfl);have he:(a==b)=true:=beq_iff_eq.2 (Tm.pz h h');go_wp2;go_ret;exact ⟨by rw [HC.out];rfl,rfl⟩}
theorem Vz (p q:Nat) (a1 a2 a3 b1 b2 b3:List UInt8) (w:World) (hp:aj w p [str a1,str a2,str a3] 9) (hq:aj w q [str b1,str b2,str b3] 9) :
  Calls Tryz.prog 97 #[.slice (some ⟨p,0,none⟩) 3 3,.slice (some ⟨q,0,none⟩) 3 3] w fun e w'=>e=.returned (.int .i64 (Tm.jg a1 a2 a3 b1 b2 b3))∧w'=w:=by
 have C:=hid fun a b w=>Vy a b w;have p0:=hp.cell (i:=0) rfl;have p1:=hp.cell (i:=1) rfl;have p2:=hp.cell (i:=2) rfl;have q0:=hq.cell (i:=0) rfl;have q1:=hq.cell (i:=1) rfl;have q2:=hq.cell (i:=2) rfl;obtain ⟨R,hR⟩:∃ R,R=Tm.jg a1 a2 a3 b1 b2 b3:=⟨_,rfl⟩;rw [←hR];have HR:=hid (show R=if Tm.cmp a1 b1=0 then (if Tm.cmp a2 b2=0 then Tm.cmp a3 b3 else Tm.cmp a2 b2) else Tm.cmp a1 b1 from hR);have K1:=hid fun w=>C.out a1 b1 w;have K2:=hid fun w=>C.out a2 b2 w;have K3:=hid fun w=>C.out a3 b3 w;obtain ⟨c1,h1⟩:∃ c,c=Tm.cmp a1 b1:=⟨_,rfl⟩;obtain ⟨c2,h2⟩:∃ c,c=Tm.cmp a2 b2:=⟨_,rfl⟩;obtain ⟨c3,h3⟩:∃ c,c=Tm.cmp a3 b3:=⟨_,rfl⟩;rw [←h1] at HR K1;rw [←h2] at HR K2;rw [←h3] at HR K3;clear hp hq hR h1 h2 h3 C;go_enter Tryz.func97,Tryz.ntmps97;go_wp2;go_loopg [5,6,7,8,11] 3 (fun gk s5 s6 s7 s8 s11 wr=>wr=w∧∃ z:Int,s11=.int .i64 z∧((z=0∧3≤gk)∨(z=1∧2≤gk∧Hid (c1=0))∨(z=2∧1≤gk∧Hid (c1=0∧c2=0))∨(z=3∧Hid (c1=0∧c2=0∧c3=0))))
 case atStart=>exact ⟨rfl,0,rfl,.inl ⟨rfl,Nat.le_refl _⟩⟩
 case round=>
  obtain ⟨rfl,z,rfl,hz⟩:=hrel;rcases hz with ⟨rfl,DU⟩ | ⟨rfl,DU,H⟩ | ⟨rfl,DU,H⟩ | ⟨rfl,H⟩
  · by_cases h:c1=0
    · have hb:(c1==0)=true:=beq_iff_eq.2 h;(go_wp2_with fail);refine (K1.out _).mono ?_;rintro e w' ⟨rfl,rfl⟩;go_wp2;go_roundg 2
      (case measure=>omega);case rel=>exact ⟨rfl,1,rfl,.inr (.inl ⟨rfl,Nat.le_refl _,hid h⟩)⟩
    {have hb:(c1==0)=false:=beq_eq_false_iff_ne.2 h;have HF:=hid (show R=c1 by rw [HR.out,if_neg h]);(go_wp2_with fail);refine (K1.out _).mono ?_;rintro e w' ⟨rfl,rfl⟩;go_wp2;go_ret;exact ⟨by rw [HF.out];rfl,rfl⟩}
  · by_cases h:c2=0
    · have hb:(c2==0)=true:=beq_iff_eq.2 h;(go_wp2_with fail);refine (K2.out _).mono ?_;rintro e w' ⟨rfl,rfl⟩;go_wp2;go_roundg 1
      (case measure=>omega);case rel=>exact ⟨rfl,2,rfl,.inr (.inr (.inl ⟨rfl,Nat.le_refl _,hid ⟨H.out,h⟩⟩))⟩
    {have hb:(c2==0)=false:=beq_eq_false_iff_ne.2 h;have HF:=hid (show R=c2 by rw [HR.out,if_pos H.out,if_neg h]);(go_wp2_with fail);refine (K2.out _).mono ?_;rintro e w' ⟨rfl,rfl⟩;go_wp2;go_ret;exact ⟨by rw [HF.out];rfl,rfl⟩}
  · by_cases h:c3=0
    · have hb:(c3==0)=true:=beq_iff_eq.2 h;(go_wp2_with fail);refine (K3.out _).mono ?_;rintro e w' ⟨rfl,rfl⟩;go_wp2;go_roundg 0
      (case measure=>omega);case rel=>exact ⟨rfl,3,rfl,.inr (.inr (.inr ⟨rfl,hid ⟨H.out.1,H.out.2,h⟩⟩))⟩
    {have hb:(c3==0)=false:=beq_eq_false_iff_ne.2 h;have HF:=hid (show R=c3 by rw [HR.out,if_pos H.out.1,if_pos H.out.2]);(go_wp2_with fail);refine (K3.out _).mono ?_;rintro e w' ⟨rfl,rfl⟩;go_wp2;go_ret;exact ⟨by rw [HF.out];rfl,rfl⟩}
  {have HF:=hid (show R=0 by rw [HR.out,if_pos H.out.1,if_pos H.out.2.1];exact H.out.2.2);go_wp2;go_ret;exact ⟨by rw [HF.out];rfl,rfl⟩}
theorem VB (w:World) (k1:Int) (t1 x1:List UInt8) (k2:Int) (t2 x2:List UInt8) (k3:Int) (t3 x3:List UInt8) (l1:Int) (u1 y1:List UInt8) (l2:Int) (u2 y2:List UInt8) (l3:Int) (u3 y3:List UInt8):∃ W,W=aM (aM w k1 t1 x1 k2 t2 x2 k3 t3 x3) l1 u1 y1 l2 u2 y2 l3 u3 y3∧aj W w.heap.size [.int .i64 k1,str t1,str x1,.int .i64 k2,str t2,str x2,.int .i64 k3,str t3,str x3] 67∧aj W (w.heap.size+1) [.int .i64 l1,str u1,str y1,.int .i64 l2,str u2,str y2,.int .i64 l3,str u3,str y3] 67∧Below w.heap.size w W:=
 ⟨_,rfl,(fE w _ _ _ _ _ _ _ _ _).alloc _,aj.new' (by unfold aM;simp) rfl,((Below.refl _ _).alloc (Nat.le_refl _) _).alloc (by simp) _⟩
theorem mU {w:World} {P:Program} {ops:Array Oper} {o:Oper} {a:Act} {K:Act→World→Prop} {Q:Exit→Act→World→Prop} {E:Prop} (hgd:o.guard=none) (s x:Operand) (t:TypeId)
  (ho:o.op=.call { callee:=.builtin .append,args:=#[s,x],argTypes:=#[t,t] })
  (base:Nat) (e:TypeId) (i:TypeInfo) (z:Value) (size bytes:Nat) (ht:P.underlying t=some (.slice e)) (hi:P.info? e=some i) (hz:i.zero=some z)
  (hsize:i.size=size) (hby:i.bytes=bytes) (hzs:z.cells.size=size) (hsz:0<size)
  (v:Value) (n:Nat) (xs:List Value) (hs:a.eval s=v) (hown:w.ownsRow base e size v n xs)
  (ad:Addr) (m c:Nat) (us:List Value) (hm:us.length=m*size) (hx:a.eval x=.slice (some ad) m c) (hc:∀ j u,us[j]?=some u→w.cell? (ad.add j)=some u) (h1:∀ u∈us,u.oneCell'=true)
  (h63:n+m≤maxLen) (hbytes:(n+m)*bytes≤140737488355328) (hbase:base≤w.heap.size)
  (h:∀ v' w',w'.ownsRow base e size v' (n+m) (xs++us)→w.grownBy w' v.ownBlock→Moved w v v'→K (a.put o.dst v') w') :
  if Region.wanted o (yielded ops a.tmps)=true then Oper.wp P o a w K Q else E:=by
 have hwd:Region.wanted o (yielded ops a.tmps)=true:=by simp [Region.wanted,hgd]
 rw [if_pos hwd];obtain ⟨v',w',hr,h2,h3,h4⟩:=vD (P:=P) (w:=w) base t o.type e i z size bytes ht hi hz hsize hby hzs hsz v n xs hown ad m c us hm hc h1 h63 hbytes hbase;have hk:=h v' w' h2 h3 h4;unfold Oper.wp execOp;simp only [ho,resolve,invoke,builtin,Sem.run_bind,Sem.run_pure,Result.andThen_ok,List.map_toArray,List.map_cons,List.map_nil,hs,hx,hr];exact hk
end Go.Proofs.YtjaebndajhppgaaGreatDoor
