/-WkVisit-/
import Derived.Test.YtockbaekcbeenaaGreatDoorMkHd1
import Derived.Test.YtockbaekcbeenaaGreatDoorMkWkNet
import Derived.Deep.DeepCutAuto
import Derived.Deep.RegionHeld3
import Derived.Lib.SliceRun
import Derived.WalkMore
import Derived.Deep.LoopGhost
set_option linter.unusedVariables false
set_option linter.unusedSimpArgs false
set_option maxRecDepth 100000
set_option maxHeartbeats 4000000
namespace Go.Proofs.YtockbaekcbeenaaGreatDoor
open Go.Proofs.Tryz
open Go.ChangeShapes Go.WideShapes Go.ChangeAt Go.RowKit
open Au
theorem afS {w:World} {B e size n m g cap:Nat} {xs:List Value} (h:w.ownsRow B e size (.slice (some ⟨g,0,none⟩) n cap) n xs) (hm:m≤n):w.ownsRow B e size (.slice (some ⟨g,0,none⟩) m cap) m (xs.take (m*size)):=by obtain ⟨h0,⟨h1,_⟩ | ⟨g',cap',cur,e1,hB,hg,r1,r2,r3,r4⟩⟩:=h;{cases h1};{cases e1;have hms:m*size≤n*size:=Nat.mul_le_mul_right _ hm;refine ⟨by rw [List.length_take,h0];omega,Or.inr ⟨g,cap,cur,rfl,hB,hg,ay,r2,r3,?_⟩⟩;rw [←r4,List.take_take,Nat.min_eq_left hms]}
structure See (g:FuncId) (cap:Array Value) (B:Nat) (X:Nat→Prop) (n:Nat) (Q:(Nat→Bool)→World→Prop) (Z:Nat→World→Prop):Prop where
 call:∀ E v W,1≤v→v≤n→Q E W→Calls prog g (#[.int .i64 (v:Nat)]++cap) W fun e W'=>aM X W W'∧((e=.returned (.bool true)∧Q (fun x=>if x=v then true else E x) W')∨(e=.returned (.bool false)∧Z v W'))
 old:∀ k,X k→k<B
 ent:∀ args W,(callFunc g args).run prog W=.ok (.enter g args) W
 aW:∀ E W W',Q E W→aM (fun k=>B≤k) W W'→Q E W'
 afT:∀ v W W',Z v W→aM (fun k=>B≤k) W W'→Z v W'
def Told (K:Wk.Net) (M:Nat→Nat→Bool) (E:Nat→Bool):Prop:=∀ v,E v=true↔∃ q,M q v=true∧K.en.getD q false=true
theorem afU (K:Wk.Net):Told K (fun _ _=>false) (fun _=>false):=fun v=>⟨fun h=>absurd h aH,fun ⟨q,h,_⟩=>absurd h aH⟩
theorem afV {K:Wk.Net} {M:Nat→Nat→Bool} {E:Nat→Bool} {p v:Nat} (h:Told K M E) (hp:K.en.getD p false=false):Told K (Wk.mark M p v) E:=fun x=>by rw [h x];constructor;{rintro ⟨q,h1,h2⟩;exact ⟨q,Wk.Dh h1,h2⟩};{rintro ⟨q,h1,h2⟩;rcases Wk.Di h1 with ⟨rfl,rfl⟩ | h3;{rw [hp] at h2;cases h2};{exact ⟨q,h3,h2⟩}}
theorem afW {K:Wk.Net} {M:Nat→Nat→Bool} {E:Nat→Bool} {p v:Nat} (h:Told K M E) (hp:K.en.getD p false=true):Told K (Wk.mark M p v) (fun x=>if x=v then true else E x):=fun x=>by by_cases e:x=v;{subst e;simp only [if_pos];exact ⟨fun _=>⟨p,Wk.Dg _ _ _,hp⟩,fun _=>trivial⟩};{simp only [if_neg e];rw [h x];constructor;{rintro ⟨q,h1,h2⟩;exact ⟨q,Wk.Dh h1,h2⟩};{rintro ⟨q,h1,h2⟩;rcases Wk.Di h1 with ⟨_,h4⟩ | h3;{exact absurd h4 e};{exact ⟨q,h3,h2⟩}}}
def afX (K:Wk.Net) (a:Nat) (X:Nat→Prop) (Q:(Nat→Bool)→World→Prop) (Z:Nat→World→Prop) (w:World) (e:Ending) (w':World):Prop:=
 e=.returned (.tuple #[])∧aM X w w'∧((∃ E,Q E w'∧∀ v,E v=true↔∃ q,K.R a (q,v)∧K.en.getD q false=true)∨∃ v q,Z v w'∧K.R a (q,v)∧K.en.getD q false=true)
theorem afY {K:Wk.Net} {a:Nat} {M:Nat→Nat→Bool} {E:Nat→Bool} (h:Wk.Inv K a M []) (hT:Told K M E) (v:Nat):E v=true↔∃ q,K.R a (q,v)∧K.en.getD q false=true:=by rw [hT v];exact ⟨fun ⟨q,h1,h2⟩=>⟨q,h.seen _ _ h1,h2⟩,fun ⟨q,h1,h2⟩=>⟨q,Wk.Vz h h1,h2⟩⟩
structure VI (w:World) (s2 P n:Nat) (rb:Nat→Nat) (X A:Nat→Prop) (M:Nat→Nat→Bool) (v:Value) (L:List Wk.Sp) (Q:World→Prop) (W:World):Prop where
 own:W.ownsRow w.heap.size 135 2 v L.length (mP L)
 ap:∀ k,v.ownBlock=some k→¬ A k
 sub:∀ k,pF s2 P rb k→A k
 lt:∀ k,A k→k<W.heap.size
 se:iC s2 W s2 P (n+1) P rb M
 q:Q W
 fr:aM X w W
section
variable {w W W':World} {s2 P n:Nat} {rb:Nat→Nat} {X A:Nat→Prop} {M:Nat→Nat→Bool} {v:Value} {L:List Wk.Sp} {Q:World→Prop}
theorem VI.keep (h:VI w s2 P n rb X A M v L Q W) (hQ:∀ A B,Q A→aM (fun k=>w.heap.size≤k) A B→Q B) (hb:Below W.heap.size W W'):VI w s2 P n rb X A M v L Q W' where
 own:=oF (X:=fun _=>False) h.own (aM.of_below hb) (fun _ _ e=>e)
 ap:=h.ap
 sub:=h.sub
 lt:=fun k hk=>Nat.lt_of_lt_of_le (h.lt k hk) hb.size
 se:=h.se.keep hb
 q:=hQ _ _ h.q (aM.of_below hb)
 fr:=h.fr.trans (aM.of_below (X:=fun _=>False) hb) (fun _ _ e=>e.elim)
theorem VI.more (h:VI w s2 P n rb X A M v L Q W) (hQ:∀ A B,Q A→aM (fun k=>w.heap.size≤k) A B→Q B) (hb:Below W.heap.size W W') {b:Nat} (h1:W.heap.size≤b) (h2:b<W'.heap.size):VI w s2 P n rb X (fun k=>A k∨k=b) M v L Q W' where
 own:=(h.keep hQ hb).own
 ap:=fun k e hk=>by
  rcases hk with hk | rfl
  · exact h.ap k e hk
  · have:=(h.own.lt _ e).2;omega
 sub:=fun k hk=>Or.inl (h.sub k hk)
 lt:=fun k hk=>by
  rcases hk with hk | rfl
  · exact Nat.lt_of_lt_of_le (h.lt k hk) hb.size
  · exact h2
 se:=h.se.keep hb
 q:=(h.keep hQ hb).q
 fr:=(h.keep hQ hb).fr
theorem VI.less {b:Nat} (h:VI w s2 P n rb X (fun k=>A k∨k=b) M v L Q W) (hA:∀ k,pF s2 P rb k→A k):VI w s2 P n rb X A M v L Q W:=
 ⟨h.own,fun k e hk=>h.ap k e (Or.inl hk),hA,fun k hk=>h.lt k (Or.inl hk),h.se,h.q,h.fr⟩
theorem VI.pop {g m c:Nat} {s:Wk.Sp} (h:VI w s2 P n rb X A M (.slice (some ⟨g,0,none⟩) (m+1) c) (L++[s]) Q W) (hm:m=L.length):VI w s2 P n rb X A M (.slice (some ⟨g,0,none⟩) m c) L Q W where
 own:=by
  have hl:(L++[s]).length=m+1:=by rw [List.length_append,hm];rfl
  have h1:=h.own
  rw [hl] at h1
  have h2:=afS h1 (show m≤m+1 by omega)
  have hsp:(mP (L++[s])).take (m*2)=mP L:=by rw [Ej,hm,←yc,List.take_left]
  rw [hsp,hm] at h2
  rw [hm];exact h2
 ap:=h.ap
 sub:=h.sub
 lt:=h.lt
 se:=h.se
 q:=h.q
 fr:=h.fr
theorem VI.mark (h:VI w s2 P n rb X A M v L Q W) (hQ:∀ A B,Q A→aM (fun k=>w.heap.size≤k) A B→Q B) (hs:w.heap.size≤s2) {q x:Nat} (hq:q<P) (hx:x≤n):VI w s2 P n rb X A (Wk.mark M q x) v L Q (W.setCell ⟨rb q,x,none⟩ (.bool true)) where
 own:=oF h.own (aM.set (X:=fun k=>k=rb q) (aM.refl _ _) (Or.inl rfl) x (.bool true)) (fun k e e2=>h.ap k e (h.sub k (Or.inr ⟨q,hq,e2⟩)))
 ap:=h.ap
 sub:=h.sub
 lt:=fun k hk=>by have:=h.lt k hk;simpa using this
 se:=h.se.set hq ay
 q:=hQ _ _ h.q (aM.set (X:=fun k=>w.heap.size≤k) (aM.refl _ _) (Or.inl (Nat.le_trans hs (h.se.qD q hq))) _ _)
 fr:=aM.set h.fr (Or.inr (Nat.le_trans hs (h.se.qD q hq))) _ _
theorem VI.told {Q':World→Prop} (h:VI w s2 P n rb X A M v L Q W) (hs:w.heap.size≤s2) (hX:∀ k,X k→k<w.heap.size) (hf:aM X W W') (hq:Q' W'):VI w s2 P n rb X A M v L Q' W' where
 own:=oF h.own hf (fun k e x=>by have:=(h.own.lt k e).1;have:=hX k x;omega)
 ap:=h.ap
 sub:=h.sub
 lt:=fun k hk=>Nat.lt_of_lt_of_le (h.lt k hk) hf.size
 se:=h.se.aW hf (fun x=>by have:=hX _ x;omega) (fun j hj x=>by have:=hX _ x;have:=h.se.qD j hj;omega)
 q:=hq
 fr:=h.fr.trans hf (fun _ _ e=>e)
theorem VI.push (h:VI w s2 P n rb X A M v L Q W) (hQ:∀ A B,Q A→aM (fun k=>w.heap.size≤k) A B→Q B) {v':Value} {p x:Nat} {o:Obj}
  (hown:W'.ownsRow w.heap.size 135 2 v' (L.length+1) (mP L++[.int .i64 (p:Nat),.int .i64 (x:Nat)])) (hgr:(W.alloc o).grownBy W' v.ownBlock) (hmv:Moved (W.alloc o) v v'):VI w s2 P n rb X A M v' (L++[(p,x)]) Q W' where
 own:=by rw [List.length_append,Ej];exact hown
 ap:=fun k e hk=>by
  rcases hmv with h1 | ⟨k',h1,h2⟩
  · exact h.ap k (by rw [←h1];exact e) hk
  · rw [h1] at e
    cases e
    simp at h2
    have:=h.lt _ hk;omega
 sub:=h.sub
 lt:=fun k hk=>by have h1:=h.lt k hk;have h2:=(iT hgr).size;simp at h2;omega
 se:=((h.se.keep ((Below.refl _ _).alloc aG o))).aW (iT hgr) (fun e=>h.ap _ e (h.sub _ (Or.inl rfl))) (fun j hj e=>h.ap _ e (h.sub _ (Or.inr ⟨j,hj,rfl⟩)))
 q:=hQ _ _ h.q ((aM.of_below ((Below.refl _ _).alloc aG o)).trans ((iT hgr).weaken fun k _ e=>(h.own.lt k e).1) (fun _ _ e=>e))
 fr:=h.fr.trans ((aM.of_below (X:=fun k=>w.heap.size≤k) ((Below.refl _ _).alloc aG o)).trans ((iT hgr).weaken fun k _ e=>(h.own.lt k e).1) (fun _ _ e=>e)) (fun k hk e=>absurd hk ay)
theorem VI.stays (h:VI w s2 P n rb X A M v L Q W) {o:Obj} (hgr:(W.alloc o).grownBy W' v.ownBlock) {b:Nat} {C:List Value} {t:TypeId} (hA:A b) (hB:aB W b C t):aB W' b C t:=
 (hB.alloc o).aW (iT hgr) (fun e=>h.ap b e hA)
end
theorem afZ {w w0:World} {p:Nat} {K:Wk.Net} {P D:Nat} (g:FuncId) (cap:Array Value) (X:Nat→Prop) (Q:(Nat→Bool)→World→Prop) (Z:Nat→World→Prop) (a:Nat)
  (hN:qE w0 p K P) (hL:∀ W,aM X w W→Below w0.heap.size w0 W) (hK:K.Ok P D) (hP:P≤32) (hn:K.n≤1000) (hD:D≤10000) (ha:1≤a∧a≤K.n) (hS:See g cap w.heap.size X K.n Q Z) (hQ:Q (fun _=>false) w) :
  Calls prog 42 #[.pointer (some ⟨p,0,none⟩),.int .i64 (a:Nat),.func (.func g) #[] cap] w (afX K a X Q Z w):=by
 obtain ⟨mb,sb,eb,oD,h1,h2,h3,h4,h5,h6⟩:=hN;have uI:=hL w (aM.refl _ _);have c0:=aD uI (h1.cell (i:=0) rfl);have c1:=aD uI (h1.cell (i:=1) rfl);have c2:=aD uI (h1.cell (i:=2) rfl);have HST:=aj fun i (hi:i<P)=>aD uI (h2.cell (i:=i) (qC hi));have N1:=aj (h1.cell (i:=1) rfl);have N3:=aj (h1.cell (i:=3) rfl);have NE:=aj fun i (hi:i<P)=>h3.cell (i:=i) (qC hi);have NM:=aj fun i (hi:i<P)=>h4.cell (i:=i) (v:=oD.getD i undef) (by simp [List.getD,show i<oD.length by omega]);have NR:=aj h6;have HL:=aj hL;have HK:=aj hK;have HS:=aj hS;have HQ:=aj hQ;have HPK:=aj (show K.st.length=P from hK.Hf);obtain ⟨n,hn0⟩:=aC K.n;have jr:=aj hn0;rw [←hn0] at c0 hn ha;obtain ⟨ha1,ha2⟩:=ha;obtain ⟨iS,Gq,dx,Gr,hbS⟩:=nI Tryz.infoSpot;clear uI hL hK hS hQ h1 h2 h3 h4 h5 h6 hn0;go_enter func42,ntmps42;have hlt1:¬ (a:Int)<1:=ay;have hgt1:¬ (n:Int)<(a:Int):=ay;go_step3
 go_wp2;go_loopg [6,31] P (fun gk s6 s31 wr=>∃ (i:Nat) (v:Value),s6=v∧s31=.int .i64 i∧i≤P∧P-i≤gk∧Hid (Below w.heap.size w wr)∧Hid (wr.ownsRow w.heap.size 135 2 v (Wk.starts K.st a i).length (mP (Wk.starts K.st a i))))
 case atStart=>exact ⟨0,_,rfl,rfl,ay,ay,Below.refl _ _,aj (World.ownsRow_nil _ _ _ _)⟩
 case round=>
  obtain ⟨i,v,hv,rfl,hi,hg,HB,HO⟩:=hrel;have hv:=hv.symm;subst hv;by_cases hlt:i<P
  · have hltz:(i:Int)<(P:Int):=ay;have d2:=aD HB.out c2;have e0:=aD HB.out (HST.out i hlt);have Mr:=aj (Wk.Vv K.st a i);have hsl:=Wk.MS K.st a i;have hB0:=HB.out.size;obtain ⟨b,hb⟩:=aC (K.st.getD i false);rw [←hb] at e0 Mr;clear hb;cases b with
    | false=>
     go_wp2;go_roundg (P-(i+1))
     (case measure=>omega);case rel=>exact ⟨i+1,v,rfl,aN,ay,ay,HB.out,aj (by rw [Mr.out];simpa using HO.out)⟩
    | true=>
     have HSL:=aj hsl;(go_wp2_with (at_builtin;refine nD rfl (.tmp 37) (.tmp 41) 133 rfl w.heap.size 135 iS _ 2 16 underlying133 Gq dx Gr hbS rfl aL v _ _ (by rfl) (HO.out.alloc _) (some ⟨wr.heap.size,0,none⟩) 1 1 [.int .i64 (i:Nat),.int .i64 (a:Nat)] (by rfl) (fun h=>by cases h) rfl (vM wr _ 135) (IQ i a) (by unfold maxLen;omega) ay (by simp;omega) ?_));intro v' w2 hown hgr hmv;have HB2:=aj (yg (HB.out.alloc ay (.cells #[.int .i64 (i:Nat),.int .i64 (a:Nat)] 135)) (by simp;omega) hgr (fun k hk=>(HO.out.lt k hk).1));have HOW:=aj hown;clear hown hgr hmv;go_wp2;go_roundg (P-(i+1))
     (case measure=>omega);case rel=>exact ⟨i+1,v',rfl,aN,ay,ay,HB2.out,aj (by have e:=Mr.out;simp only [if_true] at e;rw [e,List.length_append,Ej];exact HOW.out)⟩
  · obtain rfl:P=i:=ay;have hltz:¬ (P:Int)<(P:Int):=ay;have d1:=aD HB.out c1;have hB0:=HB.out.size;have mk1:∀ W:World,(Instr.makeSlice 82 (.int .i64 (P:Int)) (.int .i64 (P:Int))).run prog W=.ok (.slice (some ⟨W.heap.size,0,none⟩) P P) (W.alloc (.cells (madeCells #[.slice none 0 0] P) 60)):=fun W=>mk_one underlying82 Tryz.infoLBoolW ay rfl P ay W;have mk2:∀ W:World,(Instr.makeSlice 60 (.int .i64 ((n:Int)+1)) (.int .i64 ((n:Int)+1))).run prog W=.ok (.slice (some ⟨W.heap.size,0,none⟩) (n+1) (n+1)) (W.alloc (.cells (madeCells #[.bool false] (n+1)) 4)):=fun W=>mk_one underlying60 Tryz.infoBoolW ay rfl (n+1) ay W;have wn:IntKind.i64.wrap ((n:Int)+1)=(n:Int)+1:=(by rw [IntKind.wrap_i64];omega);obtain ⟨s2,hs2⟩:=aC wr.heap.size;obtain ⟨w1,hw1⟩:=aC (wr.alloc (.cells (madeCells #[.slice none 0 0] P) 60));have hb1:Below wr.heap.size wr w1:=(by rw [hw1];exact (Below.refl _ _).alloc aG _);have HB1:=aj (aI HB.out hb1);have q8:=aj (show iC s2 w1 s2 P (n+1) 0 (fun _=>0) (fun _ _=>false) from iC.start aG (by rw [hw1];exact aB.new' hs2.symm (Em P)));have Uo:=aj (show w1.ownsRow w.heap.size 135 2 v (Wk.starts K.st a P).length (mP (Wk.starts K.st a P)) from by rw [hw1];exact HO.out.alloc _);have eX:=aj (show ∀ k,v.ownBlock=some k→k<s2 from fun k e=>by have:=(HO.out.lt _ e).2;omega);have hs1:s2≤w1.heap.size:=(by rw [hw1];simp;omega);have Uq:w.heap.size≤s2:=ay;have hz1:=HB1.out.size;have hsl:=Wk.MS K.st a P;clear HO HB hb1;(go_upto_region 9 with fail);rw [←hw1,←hs2];clear hw1 hs2 hB0 d1;go_wp2;go_loopg [52] P (fun gk s52 wr=>∃ (j:Nat) (rb:Nat→Nat),s52=.int .i64 j∧j≤P∧P-j≤gk∧Hid (aM (fun k=>k=s2) w1 wr)∧Hid (iC s2 wr s2 P (n+1) j rb (fun _ _=>false)))
    (case atStart=>exact ⟨0,_,rfl,ay,ay,aj (aM.refl _ _),q8.out⟩);case round=>
     clear q8;obtain ⟨j,rb,rfl,hj,hg2,HF,q8⟩:=hrel;have bg:=aj (show Below w.heap.size w wr from HB1.out.trans (aM.below HF.out hz1 (fun k hk e=>ay)));have ow:=bg.out.size;by_cases hjl:j<P
     · have hltz:(j:Int)<(P:Int):=ay;have d0:=aD bg.out c0;have hbk:=q8.out.blk.alloc (.cells (madeCells #[.bool false] (n+1)) 4);have e9:=hbk.cell (i:=j) (v:=.slice none 0 0) (by simp [hjl]);have f9:=hbk.free j;clear hbk;go_wp2;go_roundg (P-(j+1))
       (case measure=>omega);case rel=>exact ⟨j+1,_,aN,ay,ay,aj (aM.set (HF.out.alloc _) (Or.inl rfl) _ _),aj (q8.out.more (by have:=HF.out.size;omega) hjl)⟩
     · obtain rfl:P=j:=ay;have hltz:¬ (P:Int)<(P:Int):=ay;have jA:=aj (oF Uo.out HF.out (fun k e h=>by have:=eX.out k e;omega));have Ur:=aj (show ∀ k,v.ownBlock=some k→¬ pF s2 P rb k from fun k e h=>by
        have h1:=eX.out k e;rcases h with h2 | ⟨j,hj,h2⟩;{omega}
        · have:=q8.out.qD j hj;omega)
       have m_:=aj (show aM X w wr from aM.of_below bg.out);have t_:=aj (HS.out.aW _ _ _ HQ.out (show aM (fun k=>w.heap.size≤k) w wr from aM.of_below bg.out));have jf:=aj (show Wk.Inv K a (fun _ _=>false) (Wk.starts K.st a P) from by have h:=Wk.Vw K a;rw [HPK.out] at h;exact h);have HT0:=aj (afU K);obtain ⟨S0,hS0⟩:=aC (Wk.starts K.st a P);rw [←hS0] at hsl jA jf;obtain ⟨N0,hN0⟩:=aC (Wk.todo (fun _ _=>false) P n D S0.length);have hN1:N0≤4000000000000:=(by rw [hN0];exact Wk.VH hP hn hD ay);have Ms:Wk.todo (fun _ _=>false) P n D S0.length≤N0:=ay;have Cz:=aj (show VI w s2 P n rb X (pF s2 P rb) (fun _ _=>false) v S0 (Q fun _=>false) wr from ⟨jA.out,Ur.out,fun _ h=>h,fun k hk=>by
        rcases hk with rfl | ⟨j,hj,rfl⟩;{exact q8.out.blk.lt}
        · exact (q8.out.row j hj).lt,q8.out,t_.out,m_.out⟩)
       have q9:=aj HS.out.aW;clear hS0 hN0 HF bg Uo eX HST HQ mk1 mk2 hi hg hlt hj hg2 hjl hltz jA Ur q8 t_ m_ hsl hs1 hz1 ow;go_wp2;go_step3
       go_wp2;go_loopg [6] N0 (fun gk s6 wr=>∃ (L:List Wk.Sp) (M:Nat→Nat→Bool) (v:Value) (E:Nat→Bool),s6=v∧Wk.todo M P n D L.length≤gk∧gk≤4000000000000∧Hid (VI w s2 P n rb X (pF s2 P rb) M v L (Q E) wr)∧Hid (Wk.Inv K a M L)∧Hid (Told K M E))
       (case atStart=>exact ⟨S0,_,v,_,rfl,Ms,hN1,Cz.out,jf.out,HT0.out⟩);case round=>
        clear Cz jf HT0 hN1 Ms;obtain ⟨L,M,v,E,hv,hg,hg4,HV,jf,HT⟩:=hrel;obtain ⟨G,hG⟩:=aC gk;subst hG;have hv:=hv.symm;subst hv;rcases List.eq_nil_or_concat L with rfl | ⟨L',s,rfl⟩;{have af0:=aj (afY jf.out HT.out);obtain ⟨a0,cap0,hv0⟩:∃ a0 c0,v=.slice a0 0 c0:=(by obtain ⟨h0,⟨e0,_⟩ | ⟨g1,yB,af2,e0,_⟩⟩:=HV.out.own;{exact ⟨_,_,e0⟩};{exact ⟨_,_,e0⟩});subst hv0;go_wp2;(try rw [Exit.noGoto_ret]);refine bodyPost_end (v:=.tuple #[]) aF rfl ?_;exact ⟨rfl,HV.out.fr,Or.inl ⟨E,HV.out.q,af0.out⟩⟩}
        · obtain ⟨q,x⟩:=s;rw [List.concat_eq_append] at HV jf hg;obtain ⟨m,hm⟩:=aC L'.length;have Cm:=aj hm;have hlen:(L'++[(q,x)]).length=m+1:=(by rw [List.length_append,hm];rfl);have af3:=aj jf.out;have HO:=aj HV.out.own;rw [hlen] at HO hg;have hgm:=Nat.le_trans (Wk.MW M P n D (m+1)) hg;have Us:=aj hg;obtain ⟨hq,hx1,hx2⟩:=Wk.Vu HK.out (by rw [←jr.out];exact ⟨ha1,ha2⟩) (jf.out.rest (q,x) aH);simp only at hq hx1 hx2;rw [←jr.out] at hx2;obtain ⟨h0,⟨_,e0⟩ | ⟨g1,yB,af2,rfl,r1⟩⟩:=HO.out;{omega};have hcap:=(dS HO.out).2.2.1;have ahS:=(dS HO.out).2.2.2.1;have hsl:=ZA L' (q,x);rw [←hm] at hsl;have e1:=(jV HO.out hsl.1).1;have e2:=(jV HO.out hsl.2).1;simp only at e1 e2;have Ut:=aj (HV.out.pop hm);have wm:IntKind.i64.wrap ((m:Int)+1-1)=(m:Int):=(by rw [IntKind.wrap_i64];omega);have hmc:(m:Int)≤(yB:Int):=ay;have hmn:((m:Int)).toNat=m:=ay;obtain ⟨w2,hw2⟩:=aC (wr.alloc (.cells #[.int .i64 (q:Nat),.int .i64 (x:Nat)] 135));obtain ⟨hb,GR⟩:=aC wr.heap.size;have dZ:=aj (show aB w2 hb [.int .i64 (q:Nat),.int .i64 (x:Nat)] 135 from by rw [hw2,GR];exact aB.new _ _ _);have dK:=aj (Ut.out.more (q9.out E) (show Below wr.heap.size wr w2 from by rw [hw2];exact (Below.refl _ _).alloc aG _) (b:=hb) ay (by rw [hw2,GR];simp));have hbX:w.heap.size≤hb:=(by have:=HV.out.fr.size;omega);have zC:=aj fun j (hj:j<P)=>(show rb j<hb from by have:=(HV.out.se.row j hj).lt;omega);clear hm hlen hsl h0 r1 HO HV Ut;(go_upto_region 17 with fail);rw [←hw2,←GR];clear hw2 GR e1 e2 wm hmc hmn;obtain ⟨k0,k1⟩:=tF dZ.out;have k2:=dK.out.se.cell hq hq;have k3:=dK.out.se.at hq (show x<n+1 by omega);obtain ⟨bm,vZ⟩:=aC (M q x);rw [←vZ] at k3;have hxz:(x:Int)<(n:Int)+1:=ay;have hqz:(q:Int)<(P:Int):=ay;cases bm with
          | true=>
           have HIS:=aj (Wk.Vx jf.out vZ.symm);clear vZ jf;have hgs:Wk.todo M P n D L'.length≤G-1:=(by have h1:=Us.out;rw [Cm.out,←Wk.VF] at h1;omega);(go_quiet (fail));go_wp2;go_roundg (G-1)
           (case measure=>omega);case rel=>exact ⟨L',M,_,E,rfl,hgs,ay,(dK.out.less (fun _ h=>h)).keep (q9.out E) (bV (Below.refl _ _) _),HIS.out,HT.out⟩
          | false=>
           have HIV:=aj (Wk.Vy jf.out);have hxn:x≤n:=hx2;have hgs:∀ k,k≤D*D→Wk.todo (Wk.mark M q x) P n D (L'.length+k)≤G-1:=fun k hk=>(by have h1:=Wk.VG (D:=D) (L:=m) hq hxn vZ.symm hk;have h2:=Us.out;rw [Cm.out] at h1 h2;omega);have Uu:=aj hgs;clear vZ jf hgs;(go_quiet (fail));(go_upto_region 18 with fail);obtain ⟨w3,hw3⟩:=aC (w2.drewN nq);have hb3:Below w2.heap.size w2 w3:=(by rw [hw3];exact bV (Below.refl _ _) nq);rw [←hw3];have lT:=aj (dZ.out.keep hb3);have fU:=aj (dK.out.keep (q9.out E) hb3);obtain ⟨k0,k1⟩:=tF lT.out;have k2:=fU.out.se.cell hq hq;clear hw3 hb3 dZ dK k3;refine nC 8 aF aF ?_;simp only [List.take_succ_cons,List.take_zero,List.drop_succ_cons,List.drop_zero];(repeat (go_big_quiet_step (fail)));refine wpQuiet_nil ?_;rintro _ ⟨Uv,rfl⟩;obtain ⟨w4,hw4⟩:=aC (w3.drewN Uv);have hb4:Below w3.heap.size w3 w4:=(by rw [hw4];exact bV (Below.refl _ _) Uv);rw [←hw4];have jy:=aj (lT.out.keep hb4);have jR:=aj (fU.out.keep (q9.out E) hb4);have k3:=jR.out.se.at hq (show x<n+1 by omega);have k4:=(jR.out.se.row q hq).free x;obtain ⟨w5,bG⟩:=aC (w4.setCell ⟨rb q,x,none⟩ (.bool true));have HV5:=aj (show VI w s2 P n rb X (fun k=>pF s2 P rb k∨k=hb) (Wk.mark M q x) (.slice (some ⟨g1,0,none⟩) m yB) L' (Q E) w5 from by rw [bG];exact jR.out.mark (q9.out E) Uq hq hx2);have jW:=aj (show aB w5 hb [.int .i64 (q:Nat),.int .i64 (x:Nat)] 135 from by rw [bG];exact jy.out.other (fun e=>by have:=zC.out q hq;omega) _ _);clear hw4 hb4 lT fU jy jR k0 k1 k2;(go_upto_region 19 with fail);rw [←bG];clear bG k3 k4;have hl5:=HL.out w5 HV5.out.fr;have z3:=aD hl5 N3.out;have z4:=aD hl5 (NE.out q hq);obtain ⟨k0,k1⟩:=tF jW.out;obtain ⟨be,hbe⟩:=aC (K.en.getD q false);rw [←hbe] at z4;have jC:=aj hbe;clear hl5 hbe;go_cut [110] (fun Uw wx=>(∃ E',Uw=.bool false∧Hid (VI w s2 P n rb X (fun k=>pF s2 P rb k∨k=hb) (Wk.mark M q x) (.slice (some ⟨g1,0,none⟩) m yB) L' (Q E') wx)∧Hid (Told K (Wk.mark M q x) E')∧Hid (aB wx hb [.int .i64 (q:Nat),.int .i64 (x:Nat)] 135))∨(Uw=.bool true∧Hid (aM X w wx)∧Hid (Z x wx)∧Hid (K.en.getD q false=true)))
           case first=>
            refine nC 12 aF aF ?_;simp only [List.take_succ_cons,List.take_zero,List.drop_succ_cons,List.drop_zero];cases be with
            | false=>(repeat (go_big_quiet_step (fail)));refine wpQuiet_nil ?_;rintro _ ⟨zD,rfl⟩;go_wp2;go_meet;have hb6:Below w5.heap.size w5 (w5.drewN zD):=bV (Below.refl _ _) zD;exact Or.inl ⟨E,rfl,HV5.out.keep (q9.out E) hb6,afV HT.out jC.out.symm,jW.out.keep hb6⟩
            | true=>(repeat (go_big_quiet_step (fail)));refine wpQuiet_nil ?_;rintro _ ⟨zD,rfl⟩;go_wp2;have hb6:Below w5.heap.size w5 (w5.drewN zD):=bV (Below.refl _ _) zD;have zF:=aj (HV5.out.keep (q9.out E) hb6);have uW:=aj (jW.out.keep hb6);rw [HS.out.ent];obtain ⟨w6,eP⟩:=aC (w5.drewN zD);rw [←eP] at zF uW ⊢;clear eP hb6 HV5 jW;refine Calls.mono (HS.out.call E x w6 hx1 (by rw [←jr.out];exact hx2) zF.out.q) ?_;rintro e w7 ⟨C9,⟨rfl,Ch⟩ | ⟨rfl,DZ⟩⟩;{have HV7:=aj (zF.out.told Uq HS.out.old C9 Ch);have CB:=aj (uW.out.aW C9 (fun h=>by have:=HS.out.old _ h;omega));clear zF uW C9 Ch;go_wp2;go_meet;exact Or.inl ⟨_,rfl,HV7.out,afW HT.out jC.out.symm,CB.out⟩};{have CF:=aj (zF.out.fr.trans C9 (fun _ _ h=>h));have HZ7:=aj DZ;clear zF uW C9 DZ;go_wp2;go_meet;exact Or.inr ⟨rfl,CF.out,HZ7.out,jC.out.symm⟩}
           case rest=>
            clear HV5 jW z3 z4 k0 k1;rcases hcut with ⟨E',rfl,HV,HT2,HX⟩ | ⟨rfl,KT,HZ,HEN⟩
            · have hl5:=HL.out _ HV.out.fr;have z1:=aD hl5 N1.out;have z2:=aD hl5 (NM.out q hq);obtain ⟨am,ahT,hmv,hm1,hm2,yJ,Ux⟩:=NR.out q hq;rw [hmv] at z2;obtain ⟨k0,k1⟩:=tF HX.out;have zG:=aj (HK.out.zL q);have Uy:=aj (show K.succ (q,x)=(K.mv.getD q []).flatMap fun m=>Wk.via m x from rfl);have gT:=aj Ux;clear Ux;obtain ⟨ms,hms⟩:=aC (K.mv.getD q []);rw [←hms] at z2 hm1 gT zG Uy;have bE:=aj fun i j (hi:i<ms.length) (hj:j≤D)=>(show (L'++(ms.take i).flatMap fun m=>Wk.via m x).length+j≤4000000000000 from by have h1:=Wk.nW (f:=fun m=>Wk.via m x) (D:=D) (ms.take i) (fun m hm=>by unfold Wk.via;rw [List.length_map];exact ((zG.out.2 m (List.mem_of_mem_take hm)).2.2 x).1);rw [List.length_take,Nat.min_eq_left ay] at h1;have h2:(i+1)*D≤D*D:=Nat.mul_le_mul_right _ (by have:=zG.out.1;omega);rw [Nat.add_mul,Nat.one_mul] at h2;have h3:=Nat.le_trans (Wk.MW _ _ _ _ _) (Uu.out (D*D) aG);rw [List.length_append];omega);obtain ⟨c,hc⟩:=aC ms.length;have HC:=aj hc;have hcD:c≤D:=(by rw [hc];exact zG.out.1);rw [←hc] at z2 hm1;have Uz:=aj fun nq=>HV.out.keep (q9.out E') (bV (Below.refl _ _) nq);have UD:=aj fun nq=>HX.out.keep (bV (Below.refl _ _) nq);clear hl5 hmv yJ hc hms;(go_upto_region 20 with fail);(go_quiet (fail));go_wp2;go_loopg [6,120] c (fun gl s6 af4 wr=>∃ (i:Nat) (v:Value),s6=v∧af4=.int .i64 i∧i≤c∧c-i≤gl∧Hid (VI w s2 P n rb X (fun k=>pF s2 P rb k∨k=hb) (Wk.mark M q x) v (L'++(ms.take i).flatMap fun m=>Wk.via m x) (Q E') wr)∧Hid (aB wr hb [.int .i64 (q:Nat),.int .i64 (x:Nat)] 135))
              (case atStart=>exact ⟨0,_,rfl,rfl,ay,ay,aj (by simpa [Cm.out] using Uz.out _),UD.out _⟩);case round=>
               clear HV HX Uz UD z1 z2 k0 k1;obtain ⟨i,v,hv,rfl,hi,hgl,HV,HX⟩:=hrel;have hv:=hv.symm;subst hv;by_cases hlt:i<c
               · have hltz:(i:Int)<(c:Int):=ay;have him:i<ms.length:=(by rw [←HC.out];exact hlt);have hl5:=HL.out _ HV.out.fr;obtain ⟨bm,rfl,hmm⟩:=gT.out.resolve_left ay;obtain ⟨u,y1,y2,ub,us,rfl,hu2,hu3,UF,Mt⟩:=hmm i him;have z1:=aD hl5 y1;have z2:=aD hl5 y2;have iJ:=aj (show ms.take (i+1)=ms.take i++[ms[i]] from List.take_succ_eq_append_getElem him);have UG:=aj (zG.out.2 ms[i] (List.getElem_mem him));have GU:=(zG.out.2 ms[i] (List.getElem_mem him)).2.1;obtain ⟨mi,hmid⟩:=aC (ms[i]);rw [←hmid] at z1 z2 iJ UG GU hu2 UF Mt;rw [←jr.out] at GU;have lV:=aj (Mt x ay);have hux:x<us.length:=ay;have y3:=hu3.cell (i:=x) (v:=us.getD x undef) (by simp [List.getD,hux]);have y4:=aD hl5 y3;obtain ⟨an,ahU,hun,hn1,hn2,hn3,UH⟩:=lV.out;rw [hun] at y4;rw [GU] at z2;have qY:=aj UH;have GV:=aj (show Wk.via mi x=(mi.2.getD x []).map fun u=>(mi.1,u) from rfl);obtain ⟨ln,hln⟩:=aC (mi.2.getD x []);have af5:ln.length≤D:=(by rw [hln];exact (UG.out.2.2 x).1);rw [←hln] at y4 qY GV;obtain ⟨p9,UJ⟩:=aC mi.1;rw [←UJ] at z1 GV;obtain ⟨w9,aS⟩:=aC (wr.alloc (.cells #[.int .i64 (p9:Nat),.slice (some ⟨ub,0,none⟩) (n+1) (n+1)] 131));obtain ⟨b9,bA⟩:=aC wr.heap.size;have GX:Below wr.heap.size wr w9:=(by rw [aS];exact (Below.refl _ _).alloc aG _);have zH:=aj (show aB w9 b9 [.int .i64 (p9:Nat),.slice (some ⟨ub,0,none⟩) (n+1) (n+1)] 131 from by rw [aS,bA];exact aB.new _ _ _);have UK:=aj (HV.out.more (q9.out E') GX (b:=b9) ay (by rw [aS,bA];simp));have Mw:=aj (HX.out.keep GX);have ahV:w.heap.size≤b9:=(by have:=HV.out.fr.size;omega);have y5:=aD GX y4;have k1:=Mw.out.cell (i:=1) rfl;have g1':=zH.out.cell (i:=1) rfl;clear UJ hmid hmm hu2 hu3 UF Mt y1 y2 y3 y4 hl5 GU hln hun hn1 hn2 hn3 UH lV GX HV HX;(go_upto_region 23 with fail);rw [←aS,←bA];clear aS bA z1 z2;go_wp2;obtain ⟨lc,hlc⟩:=aC ln.length;have Cy:=aj hlc;rw [←hlc] at af5 ⊢;clear hlc;go_loopg [6,131] lc (fun gn s6 af6 wr=>∃ (j:Nat) (v:Value),s6=v∧af6=.int .i64 j∧j≤lc∧lc-j≤gn∧Hid (VI w s2 P n rb X (fun k=>(pF s2 P rb k∨k=hb)∨k=b9) (Wk.mark M q x) v (L'++((ms.take i).flatMap fun m=>Wk.via m x)++(Wk.via mi x).take j) (Q E') wr)∧Hid (aB wr hb [.int .i64 (q:Nat),.int .i64 (x:Nat)] 135)∧Hid (aB wr b9 [.int .i64 (p9:Nat),.slice (some ⟨ub,0,none⟩) (n+1) (n+1)] 131))
                 (case atStart=>exact ⟨0,_,rfl,rfl,ay,ay,aj (by simpa using UK.out),Mw.out,zH.out⟩);case round=>
                  clear UK Mw zH y5 k1 g1';obtain ⟨j,v,hv,rfl,hj,hgn,HV,HX,zH⟩:=hrel;have hv:=hv.symm;subst hv;by_cases hjl:j<lc
                  · have hltz:(j:Int)<(lc:Int):=ay;have hjn:j<ln.length:=(by rw [←Cy.out];exact hjl);have hl5:=HL.out _ HV.out.fr;obtain ⟨bn,on,rfl,hrow⟩:=gM.get qY.out hjn;have y1:=aD hl5 (hrow j hjn);have g0:=zH.out.cell (i:=0) rfl;have UL:=aj (show (Wk.via mi x).take (j+1)=(Wk.via mi x).take j++[(p9,ln.getD j 0)] from by rw [GV.out,List.take_succ_eq_append_getElem (by simpa using hjn)];simp [List.getD,hjn]);obtain ⟨y,hy⟩:=aC (ln.getD j 0);rw [←hy] at y1 UL;have hbd:=bE.out i (j+1) him ay;have hvl:((Wk.via mi x).take j).length≤j:=(by rw [List.length_take];exact Nat.min_le_left _ _);obtain ⟨R,hR⟩:=aC (L'++((ms.take i).flatMap fun m=>Wk.via m x)++(Wk.via mi x).take j);have hRl:R.length+1≤4000000000000:=(by rw [hR,List.length_append];omega);have HRR:=aj hR;rw [←hR] at HV;have hzw:=HV.out.fr.size;clear hR hbd hvl hy hl5 hrow;(go_wp2_with (at_builtin;refine nD rfl (.tmp 135) (.tmp 140) 133 rfl w.heap.size 135 iS _ 2 16 underlying133 Gq dx Gr hbS rfl aL v _ _ (by rfl) (HV.out.own.alloc _) (some ⟨wr.heap.size,0,none⟩) 1 1 [.int .i64 (p9:Nat),.int .i64 (y:Nat)] (by rfl) (fun h=>by cases h) rfl (vM wr _ 135) (IQ p9 y) (by unfold maxLen;omega) ay (by simp;omega) ?_));intro v' dI hown hgr hmv;have af7:=aj (HV.out.push (q9.out E') hown hgr hmv);have af8:=aj (show aB dI hb [.int .i64 (q:Nat),.int .i64 (x:Nat)] 135 from HV.out.stays hgr (Or.inl (Or.inr rfl)) HX.out);have af9:=aj (show aB dI b9 [.int .i64 (p9:Nat),.slice (some ⟨ub,0,none⟩) (n+1) (n+1)] 131 from HV.out.stays hgr (Or.inr rfl) zH.out);clear hown hgr hmv;go_wp2;go_roundg (lc-(j+1))
                    (case measure=>omega);case rel=>exact ⟨j+1,v',rfl,aN,ay,ay,aj (by rw [UL.out,←List.append_assoc,←HRR.out];exact af7.out),af8.out,af9.out⟩
                  · have hic:i+1≤c:=hlt;obtain rfl:lc=j:=ay;have hltz:¬ (lc:Int)<(lc:Int):=ay;have Mx:=aj (show VI w s2 P n rb X (fun k=>pF s2 P rb k∨k=hb) (Wk.mark M q x) v (L'++(ms.take (i+1)).flatMap fun m=>Wk.via m x) (Q E') wr from by have h:=HV.out.less (fun _ h=>Or.inl h);rw [Cy.out,show ln.length=(Wk.via mi x).length by rw [GV.out,List.length_map],List.take_length] at h;rw [iJ.out,List.flatMap_append,←List.append_assoc];simpa using h);go_wp2;go_roundg (c-(i+1))
                    (case measure=>omega);case rel=>exact ⟨i+1,v,rfl,aN,ay,ay,Mx.out,HX.out⟩
               · obtain rfl:c=i:=ay;have hltz:¬ (c:Int)<(c:Int):=ay;have Mx:=aj (show VI w s2 P n rb X (pF s2 P rb) (Wk.mark M q x) v (L'++K.succ (q,x)) (Q E') wr from by have h:=HV.out.less (fun _ h=>h);rw [HC.out,List.take_length,←Uy.out] at h;exact h);go_wp2;go_roundg (G-1)
                 (case measure=>omega);case rel=>exact ⟨_,_,v,E',rfl,by rw [List.length_append];exact Uu.out _ (Wk.Vt HK.out _),ay,Mx.out,HIV.out,HT2.out⟩
            {go_wp2;(try rw [Exit.noGoto_ret]);refine bodyPost_end (v:=.tuple #[]) aF rfl ?_;exact ⟨rfl,KT.out,Or.inr ⟨x,q,HZ.out,af3.out.rest (q,x) aH,HEN.out⟩⟩}
end Go.Proofs.YtockbaekcbeenaaGreatDoor
