/-GRg3-/
import Derived.Test.YtjaebndajhppgaaGreatDoorMnGRg2
import Derived.Test.YtjaebndajhppgaaGreatDoorMnGRg1
import Derived.Deep.DeepCutAuto
import Derived.Test.YtjaebndajhppgaaGreatDoorMnGTm1
set_option linter.unusedVariables false
set_option maxRecDepth 100000
set_option linter.unusedSimpArgs false
set_option maxHeartbeats 2000000
namespace Go.Proofs.YtjaebndajhppgaaGreatDoor
open Go.ChangeShapes Go.WideShapes Go.ChangeAt Go.RowKit
def LevAt (w:World) (b:Nat) (l:List Nat) (wd k:Nat):Prop:=∃ pv,w.cell? ⟨b,k*2,none⟩=some (.pointer (some ⟨pv,0,none⟩)) ∧
 w.cell? ⟨b,k*2+1,none⟩=some (.int .i64 (Wv.zeros (Wv.rows l wd k) (wd-1-k):Nat))∧IsVec w pv (Wv.digs (Wv.rows l wd k) (wd-1-k))
theorem LevAt.keep {w w':World} {b:Nat} {l:List Nat} {wd k:Nat} (h:LevAt w b l wd k) (hb:Below w.heap.size w w'):LevAt w' b l wd k:=by
 obtain ⟨pv,h1,h2,h3⟩:=h
 exact ⟨pv,below_keep hb h1,below_keep hb h2,h3.keep hb⟩
def Levs (w:World) (a:Option Addr) (l:List Nat) (wd n:Nat):Prop:=n=0∨∃ b,a=some ⟨b,0,none⟩∧∀ k,k<n→LevAt w b l wd k
theorem Levs.keep {w w':World} {a:Option Addr} {l:List Nat} {wd n:Nat} (h:Levs w a l wd n) (hb:Below w.heap.size w w'):Levs w' a l wd n:=by
 rcases h with h | ⟨b,h1,h2⟩
 · exact Or.inl h
 · exact Or.inr ⟨b,h1,fun k hk=>(h2 k hk).keep hb⟩
def IsWave (w:World) (p:Nat) (l:List Nat) (wd:Nat):Prop:=wd≤20∧l.length≤1000∧(∀ x∈l,x<2 ^ wd) ∧
 ∃ a cap,w.cell? ⟨p,0,none⟩=some (.int .i64 l.length)∧w.cell? ⟨p,1,none⟩=some (.slice a wd cap)∧Levs w a l wd wd
theorem IsWave.keep {w w':World} {p:Nat} {l:List Nat} {wd:Nat} (h:IsWave w p l wd) (hb:Below w.heap.size w w'):IsWave w' p l wd:=by
 obtain ⟨h1,h2,h3,a,cap,h4,h5,h6⟩:=h
 exact ⟨h1,h2,h3,a,cap,below_keep hb h4,below_keep hb h5,h6.keep hb⟩
theorem wdig_any (b:Bool) (w:World):Calls Tryz.prog 157 #[.bool b] w fun e w'=>e=.returned (.int .i64 (Bn.dig b:Nat))∧w'=w:=by
 cases b
 all_goals
  go_enter Tryz.func157,Tryz.ntmps157
  go_wp2
  go_ret
  exact ⟨rfl,rfl⟩
theorem wlen_cell (p:Nat) (n:Int) (w:World) (h:w.cell? ⟨p,0,none⟩=some (.int .i64 n)) :
  Calls Tryz.prog 77 #[.pointer (some ⟨p,0,none⟩)] w fun e w'=>e=.returned (.int .i64 n)∧w'=w:=by
 go_enter Tryz.func77,Tryz.ntmps77
 go_wp2
 go_ret
 exact ⟨rfl,rfl⟩
theorem wtop_any (p wd:Nat) (a:Option Addr) (cap:Nat) (w:World) (h:w.cell? ⟨p,1,none⟩=some (.slice a wd cap)) (hw:wd≤20) :
  Calls Tryz.prog 195 #[.pointer (some ⟨p,0,none⟩)] w fun e w'=>e=.returned (.int .i64 ((2 ^ wd:Nat)-1:Int))∧w'=w:=by
 have h2:(2:Nat) ^ wd≤1048576:=Nat.pow_le_pow_right (by omega) hw
 have h3:((2:Int) ^ wd)=((2 ^ wd:Nat):Int):=(Int.natCast_pow 2 wd).symm
 have h4:=Nat.two_pow_pos wd
 generalize 2 ^ wd=P at h2 h3 h4 ⊢
 go_enter Tryz.func195,Tryz.ntmps195
 go_wp2
 go_ret
 exact ⟨rfl,rfl⟩
theorem whold_core (v:Value) (n:Nat) (a b:Int) (w:World) (hn:n≤1000) (hL:∀ W,W=w→Calls Tryz.prog 77 #[v] W fun e w'=>e=.returned (.int .i64 n)∧w'=W) :
  Calls Tryz.prog 194 #[v,.int .i64 a,.int .i64 b] w fun e w'=>e=.returned (.tuple #[.int .i64 (Wv.loEnd n a b:Nat),.int .i64 (Wv.hiEnd n b:Nat)])∧w'=w:=by
 go_enter Tryz.func194,Tryz.ntmps194
 go_wp2_with (go_at_call 77;refine (hL _ rfl).mono ?_;rintro e w' ⟨rfl,rfl⟩)
 all_goals
  go_ret2
  refine ⟨?_,rfl⟩
  have e1:∀ x y x' y':Int,x=x'→y=y'→Ending.returned (.tuple #[.int .i64 x,.int .i64 y])=Ending.returned (.tuple #[.int .i64 x',.int .i64 y']):=by rintro x y _ _ rfl rfl;rfl
  refine e1 _ _ _ _ ?_ ?_ <;> simp only [Wv.hiEnd,Wv.loEnd] <;> omega
theorem wdown_any (pv:Nat) (R:List Nat) (d i:Nat) (one:Bool) (w:World) (h:IsVec w pv (Wv.digs R d)) (hl:R.length≤1000) (hi:i≤R.length) :
  Calls Tryz.prog 158 #[.agg #[.pointer (some ⟨pv,0,none⟩),.int .i64 (Wv.zeros R d:Nat)],.int .i64 i,.bool one] w fun e w'=>e=.returned (.int .i64 (Wv.down R d i one:Nat))∧Below w.heap.size w w':=by
 have hdl:(Wv.digs R d).length=R.length:=by simp [Wv.digs]
 have hc:=Bm.cnt_le (Wv.digs R d) i
 have hz:Wv.zeros R d≤1000:=by unfold Wv.zeros;omega
 obtain ⟨c,hc0⟩:∃ c,c=Bm.cnt (Wv.digs R d) i:=⟨_,rfl⟩
 have hdn:Wv.down R d i one=if one then Wv.zeros R d+c else i-c:=by rw [hc0];rfl
 rw [←hc0] at hc
 have RK:=hid (fun W (hW:Below w.heap.size w W)=>by
  have:=rank_any pv (Wv.digs R d) i W (h.keep hW) (by omega)
  rw [show Bm.rank (Wv.digs R d) (i:Int)=c by rw [hc0];rfl] at this
  exact this)
 generalize Wv.zeros R d=z at *
 have HD:=hid hdn
 clear hdn hc0 h
 cases one
 all_goals
  go_enter Tryz.func158,Tryz.ntmps158
  go_wp2_with (go_at_call 178;refine (RK.out _ ((Below.refl _ _).alloc (Nat.le_refl _) _)).mono ?_;rintro e w' ⟨rfl,q,rfl⟩)
  go_ret
  exact ⟨ret_int (by rw [HD.out];simp;try omega),below_drawn ((Below.refl _ _).alloc (Nat.le_refl _) _) q⟩
theorem lev_box (W:World) (a b:Value) (t:TypeId):∃ w2,w2=W.alloc (.cells #[a,b] t)∧(∀ p:Later w2.heap.size w2,p.it.cell? ⟨W.heap.size,0,none⟩=some a)∧(∀ p:Later w2.heap.size w2,p.it.cell? ⟨W.heap.size,1,none⟩=some b)∧w2.cell? ⟨W.heap.size,0,none⟩=some a∧w2.cell? ⟨W.heap.size,1,none⟩=some b∧Hid (Below W.heap.size W w2):=by
 have h0:(W.alloc (.cells #[a,b] t)).cell? ⟨W.heap.size,0,none⟩=some a:=by simp [go_sem]
 have h1:(W.alloc (.cells #[a,b] t)).cell? ⟨W.heap.size,1,none⟩=some b:=by simp [go_sem]
 exact ⟨_,rfl,fun p=>p.keep h0,fun p=>p.keep h1,h0,h1,(Below.refl W.heap.size W).alloc (Nat.le_refl _) _⟩
theorem digit_at (u d:Nat) (hu:u<9223372036854775808):(bits BinOp.and IntKind.i64 ((u:Int) / 2 ^ d) 1==1)=u.testBit d:=by
 rw [Bn.i64_bit u d hu]
 cases u.testBit d <;> rfl
theorem wbelow_low (v:Value) (a b:Nat) (x:Int) (w:World) (h:x≤0):Calls Tryz.prog 196 #[v,.int .i64 a,.int .i64 b,.int .i64 x] w fun e w'=>e=.returned (.int .i64 0)∧Below w.heap.size w w':=by
 go_enter Tryz.func196,Tryz.ntmps196
 go_wp2
 go_ret
 exact ⟨rfl,Below.refl _ _⟩
theorem wbelow_high (p wd a b:Nat) (x:Int) (ad:Option Addr) (cap:Nat) (w:World) (hc:w.cell? ⟨p,1,none⟩=some (.slice ad wd cap)) (hw:wd≤20) (h:((2 ^ wd:Nat):Int)≤x) (hab:a≤b) (hb:b≤1000) :
  Calls Tryz.prog 196 #[.pointer (some ⟨p,0,none⟩),.int .i64 a,.int .i64 b,.int .i64 x] w fun e w'=>e=.returned (.int .i64 (b-a:Nat))∧Below w.heap.size w w':=by
 have TP:=hid (fun W (hW:W=w)=>wtop_any p wd ad cap W (by rw [hW];exact hc) hw)
 have h4:=Nat.two_pow_pos wd
 generalize 2 ^ wd=P at h h4 TP
 have h5:0<x:=by omega
 go_enter Tryz.func196,Tryz.ntmps196
 go_wp2_with (go_at_call 195;refine (TP.out _ rfl).mono ?_;rintro e w' ⟨rfl,rfl⟩)
 go_ret
 exact ⟨ret_int (by omega),Below.refl _ _⟩
theorem wbelow_mid (p a b u wd:Nat) (l:List Nat) (w:World) (h:IsWave w p l wd) (h0:0<u) (hu:u<2 ^ wd) (hab:a≤b) (hb:b≤l.length) :
  Calls Tryz.prog 196 #[.pointer (some ⟨p,0,none⟩),.int .i64 a,.int .i64 b,.int .i64 u] w fun e w'=>e=.returned (.int .i64 (Wv.belowR (Wv.seg l a b) u:Nat))∧Below w.heap.size w w':=by
 obtain ⟨hw,hn,hlt,ad,cap,c0,c1,hL⟩:=h
 have TP:=hid (fun W (hW:W=w)=>wtop_any p wd ad cap W (by rw [hW];exact c1) hw)
 have h20:2 ^ wd≤1048576:=Nat.pow_le_pow_right (by omega) hw
 have HS:=hid (show Wv.belowR (Wv.seg l a b) u=Wv.low (Wv.seg l a b) wd u by
  rw [Wv.low_all _ wd u (fun x hx=>hlt x (by unfold Wv.seg at hx;exact List.mem_of_mem_take (List.mem_of_mem_drop hx))) hu,Wv.belowR_nat])
 have hle:=Wv.belowR_le (Wv.seg l a b) u
 rw [Wv.seg_length l a b hb] at hle
 obtain ⟨R,hR⟩:∃ R,R=Wv.belowR (Wv.seg l a b) u:=⟨_,rfl⟩
 rw [←hR] at HS hle ⊢
 have HU:=hid hu
 obtain ⟨P,hP⟩:∃ P,P=2 ^ wd:=⟨_,rfl⟩
 rw [←hP] at TP h20 hu
 have HL:=hid hL
 clear hR hP hL hlt
 go_enter Tryz.func196,Tryz.ntmps196
 go_wp2_with (go_at_call 195;refine (TP.out _ rfl).mono ?_;rintro e w' ⟨rfl,rfl⟩)
 go_loopw [1,2,9,29] (fun s1 s2 s9 s29 wr=>∃ k n:Nat,k≤wd∧s29=.int .i64 k∧s9=.int .i64 n∧n≤R∧s1=.int .i64 (Wv.at' l wd u a k:Nat)∧s2=.int .i64 (Wv.at' l wd u b k:Nat)∧Hid (Below w'.heap.size w' wr)∧Hid (n+Wv.low (Wv.with' (Wv.seg l a b) wd u k) (wd-k) u=R)) (fun _ _ _ s29 _=>wd-(intOf s29).toNat)
 case atStart=>exact ⟨0,0,by omega,rfl,rfl,by omega,rfl,rfl,Below.refl _ _,by rw [HS.out,Nat.zero_add,Wv.with_zero];rfl⟩
 case round=>
  obtain ⟨k,n,hk,rfl,rfl,hnR,rfl,rfl,HB,HI⟩:=hrel
  by_cases hkw:k<wd
  · obtain ⟨bl,rfl,hl⟩:∃ b,ad=some ⟨b,0,none⟩∧∀ k,k<wd→LevAt w' b l wd k:=by
     rcases HL.out with h | h
     · omega
     · exact h
    obtain ⟨pv,d0,d1,V⟩:=(hl k hkw).keep HB.out
    have c1':=below_keep HB.out c1
    have hm:=Wv.at_mono l wd u a b k hab hb
    have hal:=Wv.at_le l wd u b k hb
    have hlen:=Wv.rows_length l wd k
    have hu2:u<9223372036854775808:=by omega
    have hlr:(Wv.rows l wd k).length≤1000:=by rw [hlen];exact hn
    have hla:Wv.at' l wd u a k≤(Wv.rows l wd k).length:=by omega
    have hlb:Wv.at' l wd u b k≤(Wv.rows l wd k).length:=by omega
    have DN:=hid (fun (i:Nat) (hi:i≤(Wv.rows l wd k).length) (one:Bool) (W:World) (hW:Below wr.heap.size wr W)=>wdown_any pv (Wv.rows l wd k) (wd-1-k) i one W (V.keep hW) hlr hi)
    have DA:=hid (fun (one:Bool) (W:World) (hW:Below wr.heap.size wr W)=>DN.out (Wv.at' l wd u a k) hla one W hW)
    have DB:=hid (fun (one:Bool) (W:World) (hW:Below wr.heap.size wr W)=>DN.out (Wv.at' l wd u b k) hlb one W hW)
    have ea:∀ one,Wv.down (Wv.rows l wd k) (wd-1-k) (Wv.at' l wd u a k) one≤l.length:=fun one=>by have:=Wv.down_le (Wv.rows l wd k) (wd-1-k) _ one hla;omega
    have eb:∀ one,Wv.down (Wv.rows l wd k) (wd-1-k) (Wv.at' l wd u b k) one≤l.length:=fun one=>by have:=Wv.down_le (Wv.rows l wd k) (wd-1-k) _ one hlb;omega
    have em:∀ one,Wv.down (Wv.rows l wd k) (wd-1-k) (Wv.at' l wd u a k) one≤Wv.down (Wv.rows l wd k) (wd-1-k) (Wv.at' l wd u b k) one:=fun one=>Wv.down_mono _ _ _ _ _ hm hlb
    have es:∀ one,Wv.down (Wv.rows l wd k) (wd-1-k) (Wv.at' l wd u b k) one-Wv.down (Wv.rows l wd k) (wd-1-k) (Wv.at' l wd u a k) one=((Wv.with' (Wv.seg l a b) wd u k).filter fun n=>n.testBit (wd-1-k)==one).length:=fun one=>by
     rw [Wv.down_sub _ _ _ _ _ hm hlb,Wv.seg_rows l wd u a b k hab hb]
    have hls:=Wv.low_succ (Wv.with' (Wv.seg l a b) wd u k) (wd-1-k) u
    rw [show wd-1-k+1=wd-k by omega,←Wv.with_succ] at hls
    have na:Wv.at' l wd u a (k+1)=Wv.down (Wv.rows l wd k) (wd-1-k) (Wv.at' l wd u a k) (u.testBit (wd-1-k)):=rfl
    have nb:Wv.at' l wd u b (k+1)=Wv.down (Wv.rows l wd k) (wd-1-k) (Wv.at' l wd u b k) (u.testBit (wd-1-k)):=rfl
    generalize Wv.down (Wv.rows l wd k) (wd-1-k) (Wv.at' l wd u a k)=dA at DA ea em es na
    generalize Wv.down (Wv.rows l wd k) (wd-1-k) (Wv.at' l wd u b k)=dB at DB eb em es nb
    generalize Wv.at' l wd u a k=A at *
    generalize Wv.at' l wd u b k=B at *
    generalize Wv.zeros (Wv.rows l wd k) (wd-1-k)=z at *
    have HLS:=hid hls
    have HNA:=hid na
    have HNB:=hid nb
    have HES:=hid es
    have HEA:=hid ea
    have HEB:=hid eb
    have HEM:=hid em
    have HLEN:=hid hlen
    have hA:A≤1000:=by omega
    have hB:B≤1000:=by omega
    have hR1:R≤1000:=by omega
    clear hls na nb es ea eb em hlen hla hlb hlr DN hl c1 HL
    go_upto_region 9 with fail
    obtain ⟨w2,hw2,e0,e1,e0',e1',HB2⟩:=lev_box wr (.pointer (some ⟨pv,0,none⟩)) (.int .i64 (z:Nat)) 219
    rw [←hw2]
    have c2:=below_keep HB2.out c1'
    have HBB:=hid (below_then HB.out HB2.out)
    have HS2:=hid (show w2.heap.size=wr.heap.size+1 by rw [hw2];simp)
    clear hw2 d0 d1
    go_upto_region 10 with fail
    rw [digit_at u (wd-1-k) hu2]
    cases hbit:u.testBit (wd-1-k)
    · rw [hbit] at HLS HNA HNB
      have HBIT:=hid hbit
      clear hbit
      go_wp2
      have DA1:=hid (fun q:Later w2.heap.size w2=>DA.out false q.it (below_then HB2.out q.low))
      have DB1:=hid (fun q:Later w2.heap.size w2=>DB.out false q.it (below_then HB2.out q.low))
      refine wp_region_later w2.heap.size (by kernel_rfl) (by kernel_rfl) ?_
      repeat (go_big_quiet_step (first
       | (go_at_call 158;with_reducible exact Later.call (Nat.le_refl _) (DA1.out _))
       | (go_at_call 158;with_reducible exact Later.call (Nat.le_refl _) (DB1.out _))))
      refine wpQuiet_nil ?_
      rintro _ ⟨q,rfl⟩
      go_wp2
      go_roundw
      case rel=>exact ⟨k+1,n,by omega,by go_num,rfl,hnR,by rw [HNA.out],by rw [HNB.out],below_then HBB.out q.low,hid (by have h1:=HLS.out;rw [if_neg (by simp)] at h1;have:=HI.out;rw [show wd-(k+1)=wd-1-k by omega];omega)⟩
      case measure=>simp [intOf];omega
    · rw [hbit] at HLS HNA HNB
      have HBIT:=hid hbit
      have hdl:=HEM.out false
      have hdb:=HEB.out false
      have hsub:=HES.out false
      have hls:=HLS.out
      rw [if_pos rfl,←hsub] at hls
      have HLS2:=hid hls
      have hnn:n+(dB false-dA false)≤R:=by have:=HI.out;omega
      clear hbit hsub hls
      have DA1:=hid (fun q:Later w2.heap.size w2=>DA.out false q.it (below_then HB2.out q.low))
      have DB1:=hid (fun q:Later w2.heap.size w2=>DB.out false q.it (below_then HB2.out q.low))
      have DA2:=hid (fun q:Later w2.heap.size w2=>DA.out true q.it (below_then HB2.out q.low))
      have DB2:=hid (fun q:Later w2.heap.size w2=>DB.out true q.it (below_then HB2.out q.low))
      generalize dA false=x1 at *
      generalize dB false=x2 at *
      go_wp2
      refine wp_region_later w2.heap.size (by kernel_rfl) (by kernel_rfl) ?_
      repeat (go_big_quiet_step (first
       | (go_at_call 158;with_reducible exact Later.call (Nat.le_refl _) (DA1.out _))
       | (go_at_call 158;with_reducible exact Later.call (Nat.le_refl _) (DB1.out _))))
      refine wpQuiet_nil ?_
      rintro _ ⟨q3,rfl⟩
      have g0:=fun q:Later q3.it.heap.size q3.it=>q.keep (e0 q3)
      have g1:=fun q:Later q3.it.heap.size q3.it=>q.keep (e1 q3)
      have HB3:=hid (below_then HB2.out q3.low)
      have DA3:=hid (fun q:Later q3.it.heap.size q3.it=>DA.out true q.it (below_then HB3.out q.low))
      have DB3:=hid (fun q:Later q3.it.heap.size q3.it=>DB.out true q.it (below_then HB3.out q.low))
      have HBC:=hid (below_then HBB.out q3.low)
      generalize q3.it=w3 at *
      clear DA1 DB1 DA2 DB2 e0 e1 e0' e1' c2 q3
      go_wp2
      refine wp_region_later w3.heap.size (by kernel_rfl) (by kernel_rfl) ?_
      repeat (go_big_quiet_step (first
       | (go_at_call 158;with_reducible exact Later.call (Nat.le_refl _) (DA3.out _))
       | (go_at_call 158;with_reducible exact Later.call (Nat.le_refl _) (DB3.out _))))
      refine wpQuiet_nil ?_
      rintro _ ⟨q,rfl⟩
      go_wp2
      go_roundw
      case rel=>exact ⟨k+1,n+(x2-x1),by omega,by go_num,by go_num,hnn,by rw [HNA.out],by rw [HNB.out],below_then HBC.out q.low,hid (by have:=HLS2.out;have:=HI.out;rw [show wd-(k+1)=wd-1-k by omega];omega)⟩
      case measure=>simp [intOf];omega
  · obtain rfl:k=wd:=by omega
    go_wp2
    go_ret
    have:=HI.out
    rw [Nat.sub_self,Wv.low_zero] at this
    exact ⟨ret_int (by omega),HB.out⟩
theorem wbelow_any (p a b wd:Nat) (x:Int) (l:List Nat) (w:World) (h:IsWave w p l wd) (hab:a≤b) (hb:b≤l.length) :
  Calls Tryz.prog 196 #[.pointer (some ⟨p,0,none⟩),.int .i64 a,.int .i64 b,.int .i64 x] w fun e w'=>e=.returned (.int .i64 (Wv.belowR (Wv.seg l a b) x:Nat))∧Below w.heap.size w w':=by
 have hlt:∀ y∈Wv.seg l a b,y<2 ^ wd:=fun y hy=>h.2.2.1 y (by unfold Wv.seg at hy;exact List.mem_of_mem_take (List.mem_of_mem_drop hy))
 by_cases h0:x≤0
 · rw [Wv.belowR_low _ _ h0];exact wbelow_low _ a b x w h0
 · by_cases h1:((2 ^ wd:Nat):Int)≤x
   · rw [Wv.belowR_high _ wd x hlt h1,Wv.seg_length _ _ _ hb]
     obtain ⟨hw,hn,_,ad,cap,c0,c1,_⟩:=h
     exact wbelow_high p wd a b x ad cap w c1 hw h1 hab (by omega)
   · obtain ⟨u,rfl⟩:=Int.eq_ofNat_of_zero_le (show 0≤x by omega)
     exact wbelow_mid p a b u wd l w h (by omega) (by omega) hab hb
theorem whold_any (p wd:Nat) (l:List Nat) (a b:Int) (w:World) (h:IsWave w p l wd) :
  Calls Tryz.prog 194 #[.pointer (some ⟨p,0,none⟩),.int .i64 a,.int .i64 b] w fun e w'=>e=.returned (.tuple #[.int .i64 (Wv.loEnd l.length a b:Nat),.int .i64 (Wv.hiEnd l.length b:Nat)])∧w'=w:=by
 obtain ⟨hw,hn,hlt,ad,cap,c0,c1,hL⟩:=h
 exact whold_core _ l.length a b w hn fun W hW=>wlen_cell p _ W (by rw [hW];exact c0)
theorem wtop_wave (p wd:Nat) (l:List Nat) (w:World) (h:IsWave w p l wd) :
  Calls Tryz.prog 195 #[.pointer (some ⟨p,0,none⟩)] w fun e w'=>e=.returned (.int .i64 ((2 ^ wd:Nat)-1:Int))∧w'=w:=by
 obtain ⟨hw,hn,hlt,ad,cap,c0,c1,hL⟩:=h
 exact wtop_any p wd ad cap w c1 hw
theorem wcount_any (p wd:Nat) (l:List Nat) (a b lo hi:Int) (w:World) (h:IsWave w p l wd) (hhi:-9223372036854775808≤hi) :
  Calls Tryz.prog 154 #[.pointer (some ⟨p,0,none⟩),.int .i64 a,.int .i64 b,.int .i64 lo,.int .i64 hi] w fun e w'=>e=.returned (.int .i64 (Wv.cntR (Wv.rng l a b) lo hi:Nat))∧Below w.heap.size w w':=by
 have h1:=Wv.loEnd_le l.length a b
 have h2:=Wv.hiEnd_le l.length b
 have hn:=h.2.1
 have hw:=h.1
 have HO:=hid (fun W (hW:W=w)=>by rw [hW];exact whold_any p wd l a b w h:∀ W,W=w→Calls Tryz.prog 194 #[.pointer (some ⟨p,0,none⟩),.int .i64 a,.int .i64 b] W fun e w'=>e=.returned (.tuple #[.int .i64 (Wv.loEnd l.length a b:Nat),.int .i64 (Wv.hiEnd l.length b:Nat)])∧w'=w)
 have BL:=hid (fun (x:Int) W (hW:Below w.heap.size w W)=>wbelow_any p _ _ wd x l W (h.keep hW) h1 h2)
 have HT:=hid (fun W (hW:W=w)=>wtop_wave p wd l W (by rw [hW];exact h))
 have hlt:∀ y∈Wv.rng l a b,y<2 ^ wd:=fun y hy=>h.2.2.1 y (Wv.rng_mem hy)
 have hlen:=Wv.rng_length l a b
 have HC:=hid (show (Wv.cntR (Wv.rng l a b) lo hi)=Wv.belowR (Wv.rng l a b) (min hi ((2 ^ wd:Nat)-1:Int)+1)-Wv.belowR (Wv.rng l a b) lo by
  have e:=Wv.cntR_eq (Wv.rng l a b) lo (min hi ((2 ^ wd:Nat)-1:Int))
  have e2:Wv.cntR (Wv.rng l a b) lo (min hi ((2 ^ wd:Nat)-1:Int))=Wv.cntR (Wv.rng l a b) lo hi:=by
   unfold Wv.cntR
   apply List.countP_congr
   intro x hx
   have:=hlt x hx
   simp only [Bool.and_eq_true,decide_eq_true_eq];omega
  rw [←e2,e];rfl)
 have hx:∀ x,Wv.belowR (Wv.rng l a b) x≤1000:=fun x=>by have:=Wv.belowR_le (Wv.rng l a b) x;omega
 have HX:=hid hx
 have h20:2 ^ wd≤1048576:=Nat.pow_le_pow_right (by omega) hw
 have hp:=Nat.two_pow_pos wd
 unfold Wv.rng at HC HX hlen ⊢
 generalize Wv.seg l (Wv.loEnd l.length a b) (Wv.hiEnd l.length b)=s at *
 generalize Wv.loEnd l.length a b=A at *
 generalize Wv.hiEnd l.length b=B at *
 generalize 2 ^ wd=P at HT HC h20 hp
 obtain ⟨c,hc⟩:∃ c,c=Wv.cntR s lo hi:=⟨_,rfl⟩
 rw [←hc] at HC ⊢
 clear hlt hc h hx
 by_cases hab:A=B
 · subst hab
   have hs:s=[]:=List.eq_nil_of_length_eq_zero (by omega)
   have hc:c=0:=by rw [HC.out,hs];rfl
   subst hc
   clear HC BL hs
   go_enter Tryz.func154,Tryz.ntmps154
   go_wp2_with (go_at_call 194;refine (HO.out _ rfl).mono ?_;rintro e w' ⟨rfl,rfl⟩)
   go_ret
   exact ⟨rfl,Below.refl _ _⟩
 · have hne:((A:Int)==(B:Int))=false:=by rw [beq_eq_false_iff_ne];omega
   clear hlen
   go_enter Tryz.func154,Tryz.ntmps154
   go_wp2_with (first
    | (go_at_call 194;refine (HO.out _ rfl).mono ?_;rintro e w' ⟨rfl,rfl⟩)
    | (go_at_call 195;refine (HT.out _ rfl).mono ?_;rintro e w' ⟨rfl,rfl⟩)
    | fail)
   · have e1:min hi ((P:Int)-1)+1=(P:Int):=by omega
     rw [e1] at HC
     have hx1:=HX.out ((P:Int))
     have hx2:=HX.out lo
     have B1:=hid (BL.out ((P:Int)))
     have B2:=hid (BL.out lo)
     generalize Wv.belowR s ((P:Int))=y1 at HC B1 hx1
     generalize Wv.belowR s lo=y2 at HC B2 hx2
     clear BL HX e1
     refine (B1.out _ (Below.refl _ _)).mono ?_
     rintro e w1 ⟨rfl,hB1⟩
     have HB1:=hid hB1
     clear hB1
     go_wp2_with (go_at_call 196;refine (B2.out _ HB1.out).mono ?_;rintro e w2 ⟨rfl,hB2⟩)
     all_goals
      go_ret
      exact ⟨ret_int (by have:=HC.out;omega),below_then HB1.out hB2⟩
   · have e1:min hi ((P:Int)-1)+1=hi+1:=by omega
     rw [e1] at HC
     have hx1:=HX.out (hi+1)
     have hx2:=HX.out lo
     have B1:=hid (BL.out (hi+1))
     have B2:=hid (BL.out lo)
     generalize Wv.belowR s (hi+1)=y1 at HC B1 hx1
     generalize Wv.belowR s lo=y2 at HC B2 hx2
     clear BL HX e1
     refine (B1.out _ (Below.refl _ _)).mono ?_
     rintro e w1 ⟨rfl,hB1⟩
     have HB1:=hid hB1
     clear hB1
     go_wp2_with (go_at_call 196;refine (B2.out _ HB1.out).mono ?_;rintro e w2 ⟨rfl,hB2⟩)
     all_goals
      go_ret
      exact ⟨ret_int (by have:=HC.out;omega),below_then HB1.out hB2⟩
theorem wrank_any (p wd:Nat) (l:List Nat) (v i:Int) (w:World) (h:IsWave w p l wd) (hv:-9223372036854775808≤v) :
  Calls Tryz.prog 155 #[.pointer (some ⟨p,0,none⟩),.int .i64 v,.int .i64 i] w fun e w'=>e=.returned (.int .i64 (Wv.cntR (Wv.rng l 0 i) v v:Nat))∧Below w.heap.size w w':=by
 go_enter Tryz.func155,Tryz.ntmps155
 go_wp2_with (go_at_call 154;refine (wcount_any p wd l 0 i v v _ h hv).mono ?_;rintro e w' ⟨rfl,hB⟩)
 go_ret
 exact ⟨rfl,hB⟩
theorem wacc_in (p wd i:Nat) (l:List Nat) (w:World) (h:IsWave w p l wd) (hi:i<l.length) :
  Calls Tryz.prog 116 #[.pointer (some ⟨p,0,none⟩),.int .i64 i] w fun e w'=>e=.returned (.int .i64 (l.getD i 0:Nat))∧Below w.heap.size w w':=by
 obtain ⟨hw,hn,hlt,ad,cap,c0,c1,hL⟩:=h
 have AG:=hid (fun k=>Wv.at_get l wd i k hi)
 have hvl:l.getD i 0<2 ^ wd:=hlt _ (by rw [List.getD,List.getElem?_eq_getElem hi];exact List.getElem_mem hi)
 have h20:2 ^ wd≤1048576:=Nat.pow_le_pow_right (by omega) hw
 have HVL:=hid hvl
 have LN:=hid (fun W (hW:W=w)=>wlen_cell p l.length W (by rw [hW];exact c0))
 generalize l.getD i 0=v at *
 have hv20:v<1048576:=by omega
 have HL:=hid hL
 clear hL hlt hvl h20 c0
 have hi':(i:Int)<l.length:=by omega
 have hd2:decide (l.length≤i)=false:=decide_eq_false (by omega)
 have hd3:decide ((i:Int)<0)=false:=decide_eq_false (by omega)
 go_enter Tryz.func116,Tryz.ntmps116
 go_wp2_with (go_at_call 77;refine (LN.out _ rfl).mono ?_;rintro e w' ⟨rfl,rfl⟩)
 go_loopw [1,5,22] (fun s1 s5 s22 wr=>∃ k n:Nat,k≤wd∧s22=.int .i64 k∧s5=.int .i64 n∧n≤v∧s1=.int .i64 (Wv.at' l wd v i k:Nat)∧Hid (Below w'.heap.size w' wr)∧Hid (n=v / 2 ^ (wd-k))) (fun _ _ s22 _=>wd-(intOf s22).toNat)
 case atStart=>exact ⟨0,0,by omega,rfl,rfl,by omega,rfl,Below.refl _ _,(Nat.div_eq_of_lt HVL.out).symm⟩
 case round=>
  obtain ⟨k,n,hk,rfl,rfl,hnv,rfl,HB,HN⟩:=hrel
  by_cases hkw:k<wd
  · obtain ⟨bl,rfl,hl⟩:∃ b,ad=some ⟨b,0,none⟩∧∀ k,k<wd→LevAt w' b l wd k:=by
     rcases HL.out with h | h
     · omega
     · exact h
    obtain ⟨pv,d0,d1,V⟩:=(hl k hkw).keep HB.out
    have c1':=below_keep HB.out c1
    have hlen:=Wv.rows_length l wd k
    obtain ⟨ha1,ha2⟩:=AG.out k
    have hlr:(Wv.rows l wd k).length≤1000:=by rw [hlen];exact hn
    have hla:Wv.at' l wd v i k<(Wv.rows l wd k).length:=by omega
    have hdl:(Wv.digs (Wv.rows l wd k) (wd-1-k)).length≤4096:=by simp only [Wv.digs,List.length_map];omega
    have GT:=hid (fun (W:World) (hW:Below wr.heap.size wr W)=>by
     have:=get_any pv _ (Wv.at' l wd v i k:Nat) W (V.keep hW) hdl
     rw [Int.toNat_natCast,Wv.testBit_digs _ _ _ hla,ha2,decide_eq_true (by omega),Bool.true_and] at this
     exact this)
    have DN:=hid (fun (one:Bool) (W:World) (hW:Below wr.heap.size wr W)=>wdown_any pv (Wv.rows l wd k) (wd-1-k) (Wv.at' l wd v i k) one W (V.keep hW) hlr (by omega))
    have na:Wv.at' l wd v i (k+1)=Wv.down (Wv.rows l wd k) (wd-1-k) (Wv.at' l wd v i k) (v.testBit (wd-1-k)):=rfl
    have hsd:=Wv.shift_digit v (wd-1-k)
    rw [show wd-1-k+1=wd-k by omega,←HN.out] at hsd
    generalize Wv.down (Wv.rows l wd k) (wd-1-k) (Wv.at' l wd v i k)=dA at DN na
    generalize Wv.at' l wd v i k=A at *
    generalize Wv.zeros (Wv.rows l wd k) (wd-1-k)=z at *
    generalize hbit:v.testBit (wd-1-k)=bit at *
    have HNA:=hid na
    have hA:A≤1000:=by omega
    have HSI:=hid (show bits BinOp.or IntKind.i64 ((n:Int)*2) ((Bn.dig bit:Nat):Int)=((v / 2 ^ (wd-1-k):Nat):Int) by rw [Pm.shift_in n bit (by omega),hsd,Nat.add_comm])
    have hnl:v / 2 ^ (wd-1-k)≤v:=Nat.div_le_self _ _
    have DG:=hid (fun W=>wdig_any bit W)
    have hdg:Bn.dig bit≤1:=by have:=Bn.dig_lt bit;omega
    generalize Bn.dig bit=dg at *
    clear na hlen hla hlr hl c1 HL ha1 ha2 AG hdl hsd hbit V
    go_upto_region 7 with fail
    obtain ⟨w2,hw2,e0,e1,e0',e1',HB2⟩:=lev_box wr (.pointer (some ⟨pv,0,none⟩)) (.int .i64 (z:Nat)) 219
    rw [←hw2]
    have HBB:=hid (below_then HB.out HB2.out)
    clear hw2 d0 d1 e0 e1 c1'
    go_wp2_with (first
     | (go_at_call 156;refine (GT.out _ HB2.out).mono ?_;rintro e w3 ⟨rfl,q,rfl⟩)
     | (go_at_call 157;refine (DG.out _).mono ?_;rintro e w4 ⟨rfl,rfl⟩)
     | (go_at_call 158;refine (DN.out _ _ (below_then HB2.out (below_drawn (Below.refl _ _) _))).mono ?_;rintro e w5 ⟨rfl,hB5⟩))
    rw [HSI.out]
    go_roundw
    case rel=>exact ⟨k+1,v / 2 ^ (wd-1-k),by omega,by go_num,rfl,hnl,by rw [HNA.out],below_then (below_then HBB.out (below_drawn (Below.refl _ _) _)) hB5,hid (by rw [show wd-(k+1)=wd-1-k by omega])⟩
    case measure=>simp [intOf];omega
  · obtain rfl:k=wd:=by omega
    go_wp2
    go_ret
    have:=HN.out
    rw [Nat.sub_self,Nat.pow_zero,Nat.div_one] at this
    exact ⟨ret_int (by omega),HB.out⟩
def NatsAt (w:World) (a:Option Addr) (l:List Nat):Prop:=RowAt w a l.length fun i=>.int .i64 ((l.getD i 0:Nat):Int)
theorem NatsAt.keep {w w':World} {a:Option Addr} {l:List Nat} (h:NatsAt w a l) (hb:Below w.heap.size w w'):NatsAt w' a l:=RowAt.keep h hb
theorem rgown_below {w w':World} {base:Nat} {e:TypeId} {size:Nat} {v:Value} {n:Nat} {xs:List Value} (h:w.ownsRow base e size v n xs) (hb:Below w.heap.size w w'):w'.ownsRow base e size v n xs:=
 h.kept (row:=none) ⟨hb.os,hb.tape,hb.output,hb.size,fun k hk _=>hb.block k hk⟩ (by cases v.ownBlock <;> simp)
theorem Tryz.wdinfo3:(Tryz.prog.info? 3).map (fun i=>(i.zero,i.size,i.bytes))=some (some (.int .i64 0),1,8):=by kernel_rfl
def Fresh (B:Nat) (w:World) (P:World→Prop):Prop:=∀ w'',(∀ k,B≤k→k<w.heap.size→w''.heap[k]?=w.heap[k]?)→P w''
theorem Fresh.it {B:Nat} {w:World} {P:World→Prop} (h:Fresh B w P):P w:=h w fun _ _ _=>rfl
theorem Fresh.keep {B:Nat} {w w':World} {P:World→Prop} (h:Fresh B w P) (hb:Below w.heap.size w w'):Fresh B w' P:=
 fun w'' hw=>h w'' fun k hk hl=>by rw [hw k hk (Nat.lt_of_lt_of_le hl hb.size),hb.block k hl]
theorem Fresh.mono {B C:Nat} {w:World} {P:World→Prop} (h:Fresh B w P) (hb:C≤B):Fresh C w P:=
 fun w'' hw=>h w'' fun k hk hl=>hw k (Nat.le_trans hb hk) hl
theorem cell_heap {w w':World} {b o:Nat} (h:w'.heap[b]?=w.heap[b]?):w'.cell? ⟨b,o,none⟩=w.cell? ⟨b,o,none⟩:=by
 simp only [World.cell?,h]
theorem ownsRow_fresh {w w'':World} {base:Nat} {e:TypeId} {size:Nat} {v:Value} {n:Nat} {xs:List Value} (h:w.ownsRow base e size v n xs)
  (hw:∀ k,base≤k→k<w.heap.size→w''.heap[k]?=w.heap[k]?):w''.ownsRow base e size v n xs:=by
 obtain ⟨hl,h⟩:=h
 refine ⟨hl,?_⟩
 rcases h with h | ⟨g,cap,cur,rfl,hg,hh,hrest⟩
 · exact Or.inl h
 · refine Or.inr ⟨g,cap,cur,rfl,hg,?_,hrest⟩
   have hlt:g<w.heap.size:=by
    have:=hh
    rw [Array.getElem?_eq_some_iff] at this
    exact this.1
   rw [hw g hg hlt];exact hh
theorem Fresh.setOld {B:Nat} {w:World} {P:World→Prop} (h:Fresh B w P) (g o:Nat) (u:Value) (hg:g<B):Fresh B (w.setCell ⟨g,o,none⟩ u) P:=
 fun w'' hw=>h w'' fun k hk hl=>by rw [hw k hk (by simpa using hl),Below.heap_setCell _ _ _ _ (by show k≠g;omega)]
def sel1 (l:List Nat) (d:Nat) (one:Bool):List Nat:=l.filter fun n=>n.testBit d==one
def iv (l:List Nat) (i:Nat):Value:=.int .i64 ((l.getD i 0:Nat):Int)
def ivs (l:List Nat):List Value:=l.map fun x:Nat=>Value.int .i64 (x:Int)
theorem sel1_take (l:List Nat) (d i:Nat) (hi:i<l.length) (one:Bool):sel1 (l.take (i+1)) d one=sel1 (l.take i) d one++(if (l.getD i 0).testBit d=one then [l.getD i 0] else []):=by
 unfold sel1
 rw [List.take_add_one,List.filter_append,List.getD,List.getElem?_eq_getElem hi]
 congr 1
 simp only [Option.toList_some,Option.getD_some,List.filter_cons,List.filter_nil,beq_iff_eq]
theorem sel1_two (l:List Nat) (d:Nat):(sel1 l d false).length+(sel1 l d true).length=l.length:=Wv.filter_two l d
theorem ivs_append (k l:List Nat):ivs (k++l)=ivs k++ivs l:=List.map_append
theorem ivs_range (l:List Nat) (q:Nat) (h:q=l.length):(List.range q).map (fun i=>iv l i)=ivs l:=by
 subst h
 refine List.ext_getElem (by simp [ivs]) fun j h1 h2=>?_
 simp only [List.getElem_map,List.getElem_range,ivs,iv]
 rw [List.getD,List.getElem?_eq_getElem (by simpa using h1)];rfl
theorem part_eq (l:List Nat) (d:Nat):Wv.part l d=sel1 l d false++sel1 l d true:=by
 unfold Wv.part sel1
 congr 1
 · congr 1;funext n;cases n.testBit d <;> rfl
 · congr 1;funext n;cases n.testBit d <;> rfl
theorem numsAt_own {w:World} {base:Nat} {e:TypeId} {v:Value} {n:Nat} {l:List Nat} (h:w.ownsRow base e 1 v n (ivs l)) (hn:n=l.length) :
  ∃ a cap,v=.slice a n cap∧n≤cap∧cap≤maxLen∧(a=none→cap=0)∧NatsAt w a l:=by
 obtain ⟨a2,cap2,hv2,hc1,hc2,hc3,hrow⟩:=rowAt_own h
 refine ⟨a2,cap2,hv2,hc1,hc2,fun h=>(hc3 h).2,?_⟩
 rcases hrow with h | ⟨b,off,h1,h2⟩
 · exact Or.inl (by omega)
 · refine Or.inr ⟨b,off,h1,fun i hi=>?_⟩
   rw [h2 i (by omega)];simp [List.getD,hi,ivs]
theorem Tryz.wpinfo3:(Tryz.prog.info? 3).map (fun i=>(i.zero,i.size,i.bytes))=some (some (.int .i64 0),1,8):=by kernel_rfl
theorem wpart_any (a a2:Option Addr) (n cap cap2 d:Nat) (l:List Nat) (w:World) (hn:n=l.length) (h1000:n≤1000) (hA:NatsAt w a l) (hO:RowAt w a2 n fun i=>.bool ((l.getD i 0).testBit d)) :
  Calls Tryz.prog 179 #[.slice a n cap,.slice a2 n cap2] w fun e w'=>∃ a' cap',e=.returned (.slice a' n cap')∧n≤cap'∧cap'≤maxLen∧(a'=none→cap'=0)∧Below w.heap.size w w'∧Fresh w.heap.size w' (fun W=>NatsAt W a' (Wv.part l d)):=by
 obtain ⟨i0,hi,hz0,hz1,hz2⟩:=info_parts Tryz.wpinfo3
 have HN:=hid hn
 have HA:=hid hA
 have HO:=hid hO
 have F2:=hid (fun i=>sel1_two (l.take i) d)
 clear hn hA hO
 go_enter Tryz.func179,Tryz.ntmps179
 go_wp2
 go_loopw [5,6,11] (fun s5 s6 s11 wr=>∃ (i p q:Nat) (v5 v6:Value),i≤n∧s5=v5∧s6=v6∧s11=.int .i64 i∧p≤1000∧q≤1000∧Hid (p=(sel1 (l.take i) d false).length∧q=(sel1 (l.take i) d true).length) ∧
   Hid (wr.ownsRow w.heap.size 3 1 v5 p (ivs (sel1 (l.take i) d false)))∧Hid (wr.ownsRow w.heap.size 3 1 v6 q (ivs (sel1 (l.take i) d true))) ∧
   Hid (Apart v5 v6)∧Hid (Below w.heap.size w wr)) (fun _ _ s11 _=>n-(intOf s11).toNat)
 case atStart=>exact ⟨0,0,0,_,_,by omega,rfl,rfl,rfl,by omega,by omega,⟨by simp [sel1],by simp [sel1]⟩,World.ownsRow_nil _ _ _ _,World.ownsRow_nil _ _ _ _,apart_nil _ _,Below.refl _ _⟩
 case round=>
  obtain ⟨i,p,q,v5,v6,hin,rfl,rfl,rfl,hp,hq,HPQ,O5,O6,D,HB⟩:=hrel
  have hsz:=HB.out.size
  by_cases hlt:i<n
  · obtain ⟨b,off,rfl,hc⟩:=(RowAt.keep HA.out HB.out).get (i:=i) (by rw [←HN.out];exact hlt)
    have c0:=hc i (by rw [←HN.out];exact hlt)
    obtain ⟨b2,off2,rfl,hc2⟩:=(RowAt.keep HO.out HB.out).get (i:=i) hlt
    have c2:=hc2 i hlt
    have hf0:=sel1_take l d i (by rw [←HN.out];exact hlt) false
    have hf1:=sel1_take l d i (by rw [←HN.out];exact hlt) true
    have h2i:=F2.out (i+1)
    rw [List.length_take,Nat.min_eq_left (by rw [←HN.out];omega)] at h2i
    obtain ⟨x,hx⟩:∃ x,x=l.getD i 0:=⟨_,rfl⟩
    rw [←hx] at c0 c2 hf0 hf1
    have hltI:(i:Int)<n:=by omega
    cases hbit:x.testBit d
    · rw [hbit] at c2 hf0 hf1
      rw [if_pos rfl] at hf0
      rw [if_neg (by simp),List.append_nil] at hf1
      have HF0:=hid hf0
      have HF1:=hid hf1
      have hp1:p+1≤1000:=by have:=HPQ.out.1;have:=HPQ.out.2;rw [hf0,hf1,List.length_append,List.length_singleton] at h2i;omega
      clear hf0 hf1 hbit hx hc hc2 h2i
      go_wp2_with (at_builtin;refine wpList_append_one rfl (.tmp 24) (.tmp 26) 48 rfl w.heap.size 3 i0 _ 8 Tryz.underlying48 hi hz0 hz1 hz2 rfl _ _ _ (.int .i64 (x:Int)) wr rfl rfl O5.out rfl rfl ?b1 ?b2 ?base ?_)
      case b1=>unfold maxLen;omega
      case b2=>omega
      case base=>exact hsz
      intro v5' w1 hown hgr hmv
      have HB1:=hid (HB.out.grown hgr hsz (fun k hk=>(O5.out.lt k hk).1))
      have O6':=hid (D.out.kept O6.out hgr)
      have D1:=hid (hmv.apart O6.out D.out)
      have O5':=hid hown
      clear hgr hmv hown O5 O6 D c0 c2
      go_wp2
      go_roundw
      case rel=>exact ⟨i+1,p+1,q,_,_,by omega,rfl,rfl,by go_num,hp1,hq,hid ⟨by rw [HF0.out,List.length_append,←HPQ.out.1];rfl,by rw [HF1.out];exact HPQ.out.2⟩,hid (by rw [HF0.out,ivs_append];exact O5'.out),hid (by rw [HF1.out];exact O6'.out),D1,HB1⟩
      case measure=>simp [intOf];omega
    · rw [hbit] at c2 hf0 hf1
      rw [if_pos rfl] at hf1
      rw [if_neg (by simp),List.append_nil] at hf0
      have HF0:=hid hf0
      have HF1:=hid hf1
      have hq1:q+1≤1000:=by have:=HPQ.out.2;have:=HPQ.out.1;rw [hf0,hf1,List.length_append,List.length_singleton] at h2i;omega
      clear hf0 hf1 hbit hx hc hc2 h2i
      go_wp2_with (at_builtin;refine wpList_append_one rfl (.tmp 20) (.tmp 22) 48 rfl w.heap.size 3 i0 _ 8 Tryz.underlying48 hi hz0 hz1 hz2 rfl _ _ _ (.int .i64 (x:Int)) wr rfl rfl O6.out rfl rfl ?b1 ?b2 ?base ?_)
      case b1=>unfold maxLen;omega
      case b2=>omega
      case base=>exact hsz
      intro v6' w1 hown hgr hmv
      have HB1:=hid (HB.out.grown hgr hsz (fun k hk=>(O6.out.lt k hk).1))
      have O5':=hid (D.out.symm.kept O5.out hgr)
      have D1:=hid (hmv.apart O5.out D.out.symm).symm
      have O6':=hid hown
      clear hgr hmv hown O5 O6 D c0 c2
      go_wp2
      go_roundw
      case rel=>exact ⟨i+1,p,q+1,_,_,by omega,rfl,rfl,by go_num,hp,hq1,hid ⟨by rw [HF0.out];exact HPQ.out.1,by rw [HF1.out,List.length_append,←HPQ.out.2];rfl⟩,hid (by rw [HF0.out];exact O5'.out),hid (by rw [HF1.out,ivs_append];exact O6'.out),D1,HB1⟩
      case measure=>simp [intOf];omega
  · obtain rfl:i=n:=by omega
    have e:=HN.out
    have ht:l.take i=l:=List.take_of_length_le (by omega)
    rw [ht] at O5 O6 HPQ
    obtain ⟨a6,cap6,rfl,h61,h62,h63,h6⟩:=numsAt_own O6.out HPQ.out.2
    have hpq:p+q=i:=by have:=F2.out i;rw [ht] at this;have:=HPQ.out;omega
    have H6:=hid h6
    have HPQ2:=hid hpq
    have HNIL:=hid h63
    have HQ:=hid HPQ.out.2
    clear h6 hpq h63 ht e
    go_wp2_with (at_builtin;refine wpList_append_row rfl (.tmp 29) (.tmp 30) 48 rfl w.heap.size 3 i0 _ 8 Tryz.underlying48 hi hz0 hz1 hz2 rfl _ _ _ rfl O5.out a6 q cap6 (fun i=>iv (sel1 l d true) i) rfl ?nil ?row ?one ?b1 ?b2 ?base ?_)
    case nil=>
     intro h
     have:=HNIL.out h
     exact ⟨by omega,this⟩
    case row=>have:=H6.out;unfold NatsAt at this;rw [←HQ.out] at this;exact this
    case one=>intro j _;rfl
    case b1=>unfold maxLen;omega
    case b2=>omega
    case base=>exact hsz
    intro v7 w7 hown hgr
    have HB7:=hid (HB.out.grown hgr hsz (fun k hk=>(O5.out.lt k hk).1))
    have hrow:ivs (sel1 l d false)++(List.range q).map (fun i=>iv (sel1 l d true) i)=ivs (Wv.part l d):=by
     rw [part_eq,ivs_append,ivs_range _ _ HQ.out]
    rw [hrow,HPQ2.out] at hown
    have hpl:i=(Wv.part l d).length:=by rw [Wv.part_length];exact HN.out
    have HOW:=hid hown
    obtain ⟨a7,cap7,rfl,h71,h72,h73,h7⟩:=numsAt_own hown hpl
    have H7:=hid (And.intro h71 (And.intro h72 h73))
    have HPL:=hid hpl
    clear hown hgr hrow hpl h71 h72 h73 h7
    go_wp2
    go_ret
    refine ⟨a7,cap7,rfl,H7.out.1,H7.out.2.1,H7.out.2.2,HB7.out,fun w'' hw=>?_⟩
    obtain ⟨a8,cap8,e8,_,_,_,h8⟩:=numsAt_own (ownsRow_fresh HOW.out hw) HPL.out
    obtain ⟨rfl,rfl⟩:a7=a8∧cap7=cap8:=by simpa using e8
    exact h8
theorem ownsRow_heap {w w'':World} {base:Nat} {e:TypeId} {size:Nat} {v:Value} {n:Nat} {xs:List Value} (h:w.ownsRow base e size v n xs)
  (hw:∀ k,v.ownBlock=some k→w''.heap[k]?=w.heap[k]?):w''.ownsRow base e size v n xs:=by
 obtain ⟨hl,h⟩:=h
 refine ⟨hl,?_⟩
 rcases h with h | ⟨g,cap,cur,rfl,hg,hh,hrest⟩
 · exact Or.inl h
 · exact Or.inr ⟨g,cap,cur,rfl,hg,by rw [hw g rfl];exact hh,hrest⟩
def Frm (B pw:Nat) (v:Value) (w w'':World):Prop:=∀ b,B≤b→b<w.heap.size→b≠pw→v.ownBlock≠some b→w''.heap[b]?=w.heap[b]?
def Hold (B pw:Nat) (v:Value) (w:World) (P:World→Prop):Prop:=∀ w'',Frm B pw v w w''→P w''
theorem Frm.refl (B pw:Nat) (v:Value) (w:World):Frm B pw v w w:=fun _ _ _ _ _=>rfl
theorem Hold.it {B pw:Nat} {v:Value} {w:World} {P:World→Prop} (h:Hold B pw v w P):P w:=h w (Frm.refl _ _ _ _)
theorem Hold.step {B pw:Nat} {v v2:Value} {w w2:World} {P:World→Prop} (h:Hold B pw v w P) (hf:Frm B pw v w w2) (hs:w.heap.size≤w2.heap.size) (hm:Moved w v v2):Hold B pw v2 w2 P:=
 fun w'' hw=>h w'' fun b hB hb hp hv=>by
  have e1:w''.heap[b]?=w2.heap[b]?:=hw b hB (Nat.lt_of_lt_of_le hb hs) hp (by
   rcases hm with e | ⟨k,e,hk⟩
   · rw [e];exact hv
   · rw [e];intro h';cases h';omega)
  rw [e1,hf b hB hb hp hv]
theorem Frm.below {B pw:Nat} {v:Value} {w w2:World} (h:Below w.heap.size w w2):Frm B pw v w w2:=fun b _ hb _ _=>h.block b hb
theorem Frm.trans {B pw:Nat} {v:Value} {w w2 w3:World} (h:Frm B pw v w w2) (hs:w.heap.size≤w2.heap.size) (k:Frm B pw v w2 w3):Frm B pw v w w3:=
 fun b hB hb hp hv=>by rw [k b hB (Nat.lt_of_lt_of_le hb hs) hp hv,h b hB hb hp hv]
theorem Frm.grown {B pw:Nat} {v:Value} {w w2:World} (h:w.grownBy w2 v.ownBlock):Frm B pw v w w2:=fun b _ hb _ hv=>h.block b hb (fun e=>hv e.symm)
theorem Frm.set {B pw:Nat} {v:Value} (w:World) (o:Nat) (x:Value):Frm B pw v w (w.setCell ⟨pw,o,none⟩ x):=fun b _ hb hp _=>Below.heap_setCell _ _ _ _ (by simpa using hp)
theorem Hold.same {B pw:Nat} {v:Value} {w w2:World} {P:World→Prop} (h:Hold B pw v w P) (hb:Below w.heap.size w w2):Hold B pw v w2 P:=h.step (Frm.below hb) hb.size (Or.inl rfl)
theorem Fresh.hold {B C pw:Nat} {v:Value} {w:World} {P:World→Prop} (h:Fresh C w P) (hpw:pw<C) (hv:∀ b,v.ownBlock=some b→b<C) (hC:B≤C):Hold B pw v w P:=
 fun w'' hw=>h w'' fun k hk hl=>hw k (Nat.le_trans hC hk) hl (by omega) (fun e=>by have:=hv _ e;omega)
theorem numsAt_heap {w w'':World} {a:Option Addr} {l:List Nat} (h:NatsAt w a l) (hw:∀ b,b<w.heap.size→w''.heap[b]?=w.heap[b]?):NatsAt w'' a l:=by
 rcases h with h | ⟨b,off,h1,h2⟩
 · exact Or.inl h
 · exact Or.inr ⟨b,off,h1,fun i hi=>by rw [cell_heap (hw b (lt_of_cell (h2 i hi)))];exact h2 i hi⟩
def lcells (pv:Nat→Nat) (l:List Nat) (wd k:Nat):List Value:=
 (List.range k).flatMap fun j=>[.pointer (some ⟨pv j,0,none⟩),.int .i64 (Wv.zeros (Wv.rows l wd j) (wd-1-j):Nat)]
theorem lcells_succ (pv:Nat→Nat) (l:List Nat) (wd k x:Nat) :
  lcells pv l wd k++[.pointer (some ⟨x,0,none⟩),.int .i64 (Wv.zeros (Wv.rows l wd k) (wd-1-k):Nat)]=lcells (fun j=>if j=k then x else pv j) l wd (k+1):=by
 unfold lcells
 rw [List.range_succ,List.flatMap_append]
 congr 1
 · rw [List.flatMap_def,List.flatMap_def]
   congr 1
   apply List.map_congr_left
   intro j hj
   have hne:¬ j=k:=by have:=List.mem_range.1 hj;omega
   simp only [if_neg hne]
 · simp
theorem lcells_length (pv:Nat→Nat) (l:List Nat) (wd k:Nat):(lcells pv l wd k).length=k*2:=by
 induction k with
 | zero=>rfl
 | succ k ih=>unfold lcells at *;rw [List.range_succ,List.flatMap_append,List.length_append,ih];simp;omega
theorem lcells_get (pv:Nat→Nat) (l:List Nat) (wd:Nat):∀ (k j:Nat),j<k→(lcells pv l wd k)[j*2]?=some (.pointer (some ⟨pv j,0,none⟩))∧(lcells pv l wd k)[j*2+1]?=some (.int .i64 (Wv.zeros (Wv.rows l wd j) (wd-1-j):Nat)):=by
 intro k
 induction k with
 | zero=>intro j hj;exact absurd hj (Nat.not_lt_zero _)
 | succ k ih=>
  intro j hj
  have hlen:=lcells_length pv l wd k
  have e:lcells pv l wd (k+1)=lcells pv l wd k++[.pointer (some ⟨pv k,0,none⟩),.int .i64 (Wv.zeros (Wv.rows l wd k) (wd-1-k):Nat)]:=by
   unfold lcells;rw [List.range_succ,List.flatMap_append];simp
  rw [e]
  by_cases h:j<k
  · rw [List.getElem?_append_left (by omega),List.getElem?_append_left (by omega)]
    exact ih j h
  · obtain rfl:j=k:=by omega
    rw [List.getElem?_append_right (by omega),List.getElem?_append_right (by omega),hlen]
    simp
def bcells (R:List Nat) (d i n:Nat):List Value:=(List.range n).map fun t=>.bool (decide (t<i) && (R.getD t 0).testBit d)
theorem bcells_get (R:List Nat) (d i n t:Nat) (h:t<n):(bcells R d i n)[t]?=some (.bool (decide (t<i) && (R.getD t 0).testBit d)):=by
 unfold bcells;rw [List.getElem?_map,List.getElem?_range h];rfl
theorem bcells_zero (R:List Nat) (d n:Nat):(madeCells #[.bool false] n).toList=bcells R d 0 n:=by
 apply List.ext_getElem?
 intro t
 simp only [madeCells,Array.toList_map,Array.toList_range,List.getElem?_map,bcells]
 by_cases ht:t<n
 · rw [List.getElem?_range ht];simp [Nat.mod_one]
 · have e:(List.range n)[t]?=none:=by simp;omega
   rw [e];simp
theorem bcells_set (R:List Nat) (d i n:Nat) (h:i<n):(bcells R d i n).set i (.bool ((R.getD i 0).testBit d))=bcells R d (i+1) n:=by
 apply List.ext_getElem?
 intro t
 rw [List.getElem?_set]
 have hl:(bcells R d i n).length=n:=by simp [bcells]
 by_cases ht:t<n
 · rw [bcells_get _ _ _ _ _ ht,bcells_get _ _ _ _ _ ht,hl]
   split
   · rename_i h1;subst h1;simp [h]
   · rename_i h1
     congr 3
     rw [decide_eq_decide];omega
 · have e:∀ i,(bcells R d i n)[t]?=none:=fun i=>by simp [bcells];omega
   rw [e,e,if_neg (by omega)]
theorem bcells_row {w:World} {b:Nat} {R:List Nat} {d n:Nat} (h:Blk w b (bcells R d n n) 4):RowAt w (some ⟨b,0,none⟩) n fun i=>.bool ((R.getD i 0).testBit d):=by
 refine Or.inr ⟨b,0,rfl,fun i hi=>?_⟩
 rw [Nat.zero_add,h.cell (bcells_get R d n n i hi),decide_eq_true hi,Bool.true_and]
theorem isVec_fresh {B:Nat} {w:World} {p:Nat} {l:List Bool} (h:IsVec w p l) (hw:∀ w'',(∀ k,B≤k→w''.heap[k]?=w.heap[k]?)→IsVec w'' p l):Fresh B w (fun W=>IsVec W p l):=by
 intro w'' hh
 have h1:IsVec { w'' with heap:=w''.heap.extract 0 w.heap.size } p l:=hw _ fun k hk=>by
  show (w''.heap.extract 0 w.heap.size)[k]?=_
  rw [Array.getElem?_extract]
  by_cases hl:k<w.heap.size
  · rw [←hh k hk hl]
    simp only [Nat.sub_zero,Nat.zero_add]
    by_cases h2:k<w''.heap.size
    · rw [if_pos (by omega)]
    · rw [if_neg (by omega),Array.getElem?_eq_none (by omega)]
  · simp only [Nat.sub_zero]
    rw [if_neg (by omega),Array.getElem?_eq_none (by omega)]
 obtain ⟨bw,ba,m,e1,e2,e3,e4,e5⟩:=h1
 have up:∀ {b:Nat} {A:List Value} {t:TypeId},Blk { w'' with heap:=w''.heap.extract 0 w.heap.size } b A t→Blk w'' b A t:=by
  intro b A t hb
  have hlt:=hb.lt
  unfold Blk at *
  have:(w''.heap.extract 0 w.heap.size)[b]?=some (.cells A.toArray t (0,0)):=hb
  rw [Array.getElem?_extract] at this
  split at this
  · simpa using this
  · cases this
 exact ⟨bw,ba,m,e1,e2,up e3,up e4,up e5⟩
theorem rgmay_nat {l:List Nat} {wd:Nat} (h:Pm.May (l.map fun x:Nat=>(x:Int)) wd):wd≤20∧l.length≤1000∧∀ x∈l,x<2 ^ wd:=by
 obtain ⟨h1,h2,h3,h4⟩:=h
 refine ⟨by omega,by simpa using h3,fun x hx=>?_⟩
 obtain ⟨i,hi,rfl⟩:=List.getElem_of_mem hx
 have:=(h4 i (by simpa using hi)).2
 simpa [List.getD,hi] using this
theorem Tryz.wninfo4:(Tryz.prog.info? 4).map (fun i=>(i.zero,i.size,i.bytes))=some (some (.bool false),1,1):=by kernel_rfl
theorem Tryz.wninfo219:(Tryz.prog.info? 219).map (fun i=>(i.zero,i.size,i.bytes))=some (some (.agg #[.pointer none,.int .i64 0]),2,16):=by kernel_rfl
theorem wnew_ok (a:Option Addr) (n cap wd:Nat) (l:List Nat) (w:World) (hn:n=l.length) (hm:Pm.May (l.map fun x:Nat=>(x:Int)) wd) (hA:NatsAt w a l) :
  Calls Tryz.prog 131 #[.slice a n cap,.int .i64 wd] w fun e w'=>∃ p,e=.returned (.tuple #[.pointer (some ⟨p,0,none⟩),.int .i64 0])∧Below w.heap.size w w'∧Fresh w.heap.size w' (fun W=>IsWave W p l wd):=by
 obtain ⟨i0,hi,hz0,hz1,hz2⟩:=info_parts Tryz.wninfo4
 obtain ⟨i1,hi1,hy0,hy1,hy2⟩:=info_parts Tryz.wninfo219
 obtain ⟨hw20,hn1000,hlt⟩:=rgmay_nat hm
 have hnl:=hn
 rw [←hn] at hn1000
 have mk1:∀ W:World,(Instr.makeSlice 242 (.int .i64 (n:Int)) (.int .i64 (n:Int))).run Tryz.prog W=_:=fun W=>run_make W 242 4 i0 _ Tryz.underlying242 hi hz0 .i64 .i64 n n (by omega) (by omega) (by rw [hz2];omega) (by omega)
 have PK:=hid (pack_ok a n cap wd (l.map fun x:Nat=>(x:Int)) w (by simpa using hn) hm (by
  have e:∀ i,(l.map fun x:Nat=>(x:Int)).getD i 0=((l.getD i 0:Nat):Int):=fun i=>by
   simp only [List.getD,List.getElem?_map];cases l[i]? <;> rfl
  have h:=hA
  unfold NatsAt at h
  rw [←hn] at h
  rcases h with h | ⟨b,off,h1,h2⟩
  · exact Or.inl h
  · exact Or.inr ⟨b,off,h1,fun i hi=>by rw [h2 i hi];show some (Value.int .i64 _)=some (Value.int .i64 _);rw [e]⟩))
 have HA:=hid hA
 have HN:=hid hn
 have HLT:=hid hlt
 generalize Pm.size n wd=psz at PK
 have hpz:=hid (show True from trivial)
 clear hn hm hA hlt hnl
 go_enter Tryz.func131,Tryz.ntmps131
 go_wp2_with (go_at_call 105;refine PK.out.mono ?_;rintro e w1 ⟨pb,rfl,hB1,_,_⟩)
 obtain ⟨w2,hw2⟩:∃ w2,w2=w1.alloc (.cells #[.int .i64 n,.slice none 0 0] 182):=⟨_,rfl⟩
 rw [←hw2]
 have BW0:Hid (Blk w2 w1.heap.size [.int .i64 n,.slice none 0 0] 182):=hid (by rw [hw2];exact Blk.new' rfl rfl)
 have hpw:w.heap.size≤w1.heap.size:=hB1.size
 have HB2:Hid (Below w.heap.size w w2):=hid (by rw [hw2];exact hB1.alloc hpw _)
 have HPW:=hid (show w1.heap.size<w2.heap.size by rw [hw2];simp)
 have HN0:Hid (Hold 0 w1.heap.size (.slice none 0 0) w2 (fun W=>NatsAt W a (Wv.rows l wd 0))):=hid (fun w'' hw''=>by
  refine numsAt_heap HA.out fun b hb=>?_
  rw [hw'' b (Nat.zero_le _) (by have:=HPW.out;omega) (by omega) (by intro h;cases h),HB2.out.block b hb])
 generalize w1.heap.size=pw at *
 clear hw2 hB1 PK
 go_loopw [0,9] (fun s0 s9 wr=>∃ (k cap:Nat) (a:Option Addr) (pv:Nat→Nat) (lv:Value),s0=.slice a n cap∧s9=.int .i64 ((wd:Int)-1-k)∧k≤wd∧Hid (Hold 0 pw lv wr (fun W=>NatsAt W a (Wv.rows l wd k))) ∧
   Hid (wr.ownsRow w.heap.size 219 2 lv k (lcells pv l wd k))∧Hid (Blk wr pw [.int .i64 n,lv] 182)∧Hid (∀ j,j<k→Hold w.heap.size pw lv wr (fun W=>IsVec W (pv j) (Wv.digs (Wv.rows l wd j) (wd-1-j)))) ∧
   Hid (lv.ownBlock≠some pw)∧Hid (Below w.heap.size w wr)) (fun _ s9 _=>(intOf s9+1).toNat)
 case atStart=>exact ⟨0,cap,a,fun _=>0,_,rfl,by simp,by omega,HN0,World.ownsRow_nil _ _ _ _,BW0,hid (fun j hj=>absurd hj (Nat.not_lt_zero _)),hid (by intro h;cases h),HB2⟩
 case round=>
  obtain ⟨k,cap,a,pv,lv,rfl,rfl,hk,HR,HO,BW,HV,HNE,HB⟩:=hrel
  by_cases hkw:k<wd
  · have e9:(wd:Int)-1-k=((wd-1-k:Nat):Int):=by omega
    rw [e9]
    obtain ⟨R,hR⟩:∃ R,R=Wv.rows l wd k:=⟨_,rfl⟩
    obtain ⟨d,hd⟩:∃ d,d=wd-1-k:=⟨_,rfl⟩
    have hRl:n=R.length:=by rw [hR,Wv.rows_length];exact HN.out
    have hRlt:∀ x∈R,x<9223372036854775808:=fun x hx=>by
     have h1:=HLT.out x ((Wv.rows_mem l wd k x).1 (by rw [←hR];exact hx))
     have h2:2 ^ wd≤1048576:=Nat.pow_le_pow_right (by omega) hw20
     omega
    rw [←hd]
    have HRE:=hid hR
    have HD:=hid hd
    have HRL:=hid hRl
    have HRLT:=hid hRlt
    rw [←HRE.out] at HR
    have hd19:d≤19:=by omega
    clear hR hd hRl hRlt e9 BW0 HN0 HB2 HPW
    go_wp2
    obtain ⟨wo,rfl⟩:∃ wo:World,wo=wr:=⟨_,rfl⟩
    go_loopw [39] (fun s39 wr=>∃ i:Nat,i≤n∧s39=.int .i64 i∧Hid (Below wo.heap.size wo wr)∧Hid (Blk wr wo.heap.size (bcells R d i n) 4)) (fun s39 _=>n-(intOf s39).toNat)
    case atStart=>exact ⟨0,by omega,rfl,(Below.refl _ _).alloc (Nat.le_refl _) _,Blk.new' rfl (bcells_zero R d n)⟩
    case round=>
     obtain ⟨i,hin,rfl,HI,BO⟩:=hrel
     by_cases hlt:i<n
     · obtain ⟨b,off,rfl,hc⟩:=(NatsAt.keep HR.out.it HI.out).get (i:=i) (by rw [←HRL.out];exact hlt)
       have c0:=hc i (by rw [←HRL.out];exact hlt)
       have hx:=HRLT.out (R.getD i 0) (by rw [List.getD,List.getElem?_eq_getElem (by rw [←HRL.out];exact hlt)];exact List.getElem_mem _)
       have c1:=BO.out.cell (bcells_get R d i n i hlt)
       have f1:=BO.out.free i
       have hst:=BO.out.set i (.bool ((R.getD i 0).testBit d))
       rw [bcells_set R d i n hlt] at hst
       obtain ⟨x,hx0⟩:∃ x,x=R.getD i 0:=⟨_,rfl⟩
       rw [←hx0] at c0 hx hst
       simp only [Nat.lt_irrefl,decide_false,Bool.false_and] at c1
       have DG:=hid (digit_at x d hx)
       have HST:=hid hst
       have hltI:(i:Int)<n:=by omega
       clear hc hx0 hst
       go_wp2
       rw [DG.out]
       go_roundw
       case rel=>exact ⟨i+1,by omega,by go_num,HI.out.setCell (Nat.le_refl _) _,HST.out⟩
       case measure=>simp [intOf];omega
     · obtain rfl:i=n:=by omega
       have hdl:(Wv.digs R d).length=i:=by simp only [Wv.digs,List.length_map];exact HRL.out.symm
       have ROW:=hid (bcells_row BO.out)
       have NW:=hid (new_any (some ⟨wo.heap.size,0,none⟩) i (Wv.digs R d) wr (by omega) (by
        rw [hdl]
        refine Or.inr ⟨wo.heap.size,0,rfl,fun j hj=>?_⟩
        rw [Nat.zero_add,BO.out.cell (bcells_get R d i i j hj),decide_eq_true hj,Bool.true_and]
        show _=some (Value.bool ((Wv.digs R d).getD j false))
        rw [Wv.testBit_digs R d j (by rw [←HRL.out];exact hj)]))
       rw [hdl] at NW
       have HDL:=hid hdl
       clear hdl
       go_wp2_with (go_at_call 177;refine NW.out.mono ?_;rintro e w4 ⟨p4,rfl,hB4,hV4,hF4⟩)
       have HB4:=hid hB4
       have HV4:=hid hV4
       have FR4:=hid (isVec_fresh hV4 hF4)
       have RK:=hid (fun W (hW:W=w4)=>by rw [hW];exact rank_any p4 (Wv.digs R d) i w4 HV4.out (by rw [HDL.out];omega):∀ W,W=w4→Calls Tryz.prog 178 #[.pointer (some ⟨p4,0,none⟩),.int .i64 i] W fun e w'=>e=.returned (.int .i64 (Bm.rank (Wv.digs R d) i:Nat))∧∃ n,w'=W.drewN n)
       have hrk:Bm.rank (Wv.digs R d) (i:Int)≤i:=by unfold Bm.rank;rw [Int.toNat_natCast];exact Bm.cnt_le _ _
       have hzz:=hid (show Wv.zeros R d=i-Bm.rank (Wv.digs R d) (i:Int) by unfold Wv.zeros Bm.rank;rw [←HRL.out,Int.toNat_natCast])
       generalize Bm.rank (Wv.digs R d) (i:Int)=rk at *
       have HP4:=hid (show wo.heap.size<w4.heap.size by have:=HB4.out.size;have:=BO.out.lt;omega)
       clear hB4 hV4 hF4 NW
       have hz:(i:Int)-rk=((Wv.zeros R d:Nat):Int):=by have:=hzz.out;omega
       have HZ:=hid hz
       clear hz
       go_upto_region 16 with (go_at_call 178;refine (RK.out _ rfl).mono ?_;rintro e w5' ⟨rfl,q5,rfl⟩)
       rw [HZ.out]
       obtain ⟨w5,hw5⟩:∃ w5,w5=w4.drewN q5:=⟨_,rfl⟩
       rw [←hw5]
       have HB45:=hid (show Below w4.heap.size w4 w5 by rw [hw5];exact below_drawn (Below.refl _ _) _)
       have HBo5:=hid (show Below wo.heap.size wo w5 from below_then (below_then HI.out HB4.out) HB45.out)
       have BW5:=hid (BW.out.keep HBo5.out)
       have HO5:=hid (rgown_below HO.out HBo5.out)
       have BO5:=hid (BO.out.keep (below_then HB4.out HB45.out))
       have c5:=BW5.out.cell (i:=1) (v:=lv) rfl
       have f5:=BW5.out.free 1
       have HS5:=hid (show wo.heap.size<w5.heap.size by have:=HB45.out.size;have:=HP4.out;omega)
       have FR5:=hid (FR4.out.keep HB45.out)
       clear hw5 RK HZ hzz hrk FR4 HV4 HB4 HB45 HP4
       obtain ⟨z,hz0⟩:∃ z,z=Wv.zeros R d:=⟨_,rfl⟩
       rw [←hz0]
       have HZ0:=hid hz0
       clear hz0
       go_wp2_with (at_builtin;refine wpList_append_blk rfl (.tmp 66) (.tmp 70) 180 rfl w.heap.size 219 i1 _ 2 16 Tryz.underlying180 hi1 hy0 hy1 hy2 rfl (by decide) _ _ _ rfl (HO5.out.alloc _) (some ⟨w5.heap.size,0,none⟩) 1 1 [.pointer (some ⟨p4,0,none⟩),.int .i64 (z:Nat)] rfl ?nil rfl ?news ?one ?b1 ?b2 ?base ?_)
       case nil=>intro h;cases h
       case news=>
        intro ad had j u hu
        cases had
        match j with
        | 0=>simp at hu;subst hu;simp [go_sem]
        | 1=>simp at hu;subst hu;simp [go_sem]
        | j+2=>simp at hu
       case one=>intro u hu;simp at hu;rcases hu with rfl | rfl <;> rfl
       case b1=>unfold maxLen;omega
       case b2=>omega
       case base=>have:=HBo5.out.size;have:=HB.out.size;simp;omega
       intro lv' w6 hown hgr hmv
       obtain ⟨ao,cp,hlv⟩:∃ ao cp,lv'=.slice ao (k+1) cp:=by
        rcases hown.2 with ⟨rfl,h⟩ | ⟨g,cap,cur,rfl,_⟩
        · omega
        · exact ⟨_,_,rfl⟩
       subst hlv
       have hgr5:w5.grownBy w6 lv.ownBlock:=⟨hgr.os,hgr.tape,hgr.output,by have:=hgr.size;simp at this;omega,fun k hk hne=>by
        rw [hgr.block k (by simp;omega) hne,Below.heap_alloc _ _ _ hk]⟩
       have hmv5:Moved w5 lv (.slice ao (k+1) cp):=by
        rcases hmv with c | ⟨k,c,e⟩
        · exact Or.inl c
        · exact Or.inr ⟨k,c,by simp at e;omega⟩
       have hownlt:∀ g,lv.ownBlock=some g→w.heap.size≤g∧g<wo.heap.size:=fun g hg=>HO.out.lt g hg
       have hpwlt:pw<wo.heap.size:=BW.out.lt
       have hwz:=HB.out.size
       have hz5:=HBo5.out.size
       have hz6:=hgr5.size
       have BW6:Blk w6 pw [.int .i64 (i:Nat),lv] 182:=by
        have h:=BW5.out
        unfold Blk at *
        rw [hgr5.block pw (by omega) (fun e=>HNE.out e.symm)];exact h
       have BO6:Blk w6 wo.heap.size (bcells R d i i) 4:=by
        have h:=BO5.out
        unfold Blk at *
        rw [hgr5.block wo.heap.size HS5.out (fun e=>by have:=(hownlt _ e.symm).2;omega)];exact h
       have c6:=BW6.cell (i:=1) (v:=lv) rfl
       have f6:=BW6.free 1
       have HOWN:=hid hown
       have HGR:=hid hgr5
       have HMV:=hid hmv5
       have HLT2:=hid hownlt
       have B6:=hid BW6
       have B6':=hid BO6
       clear hown hgr hmv hgr5 hmv5 hownlt BW6 BO6 c5 f5
       go_upto_region 17 with fail
       obtain ⟨w7,hw7⟩:∃ w7,w7=w6.setCell ⟨pw,1,none⟩ (.slice ao (k+1) cp):=⟨_,rfl⟩
       rw [←hw7]
       have hz7:w7.heap.size=w6.heap.size:=by rw [hw7];simp
       have F07:∀ B,Frm B pw lv wo w7:=fun B=>by
        rw [hw7]
        exact ((Frm.below HBo5.out).trans hz5 ((Frm.grown HGR.out).trans hz6 (Frm.set w6 1 (.slice ao (k+1) cp))))
       have F57:∀ B,Frm B pw lv w5 w7:=fun B=>by
        rw [hw7]
        exact (Frm.grown HGR.out).trans hz6 (Frm.set w6 1 (.slice ao (k+1) cp))
       have NR7:=HR.out w7 (F07 0)
       have BO7:Blk w7 wo.heap.size (bcells R d i i) 4:=by rw [hw7];exact B6'.out.other (by omega) 1 (.slice ao (k+1) cp)
       have BW7:Blk w7 pw [.int .i64 (i:Nat),(.slice ao (k+1) cp)] 182:=by rw [hw7];exact B6.out.set 1 (.slice ao (k+1) cp)
       have hne':(Value.slice ao (k+1) cp).ownBlock≠some pw:=by
        rcases HMV.out with e | ⟨k,e,hk⟩
        · rw [e];exact HNE.out
        · rw [e];intro h;cases h;omega
       have HO7:w7.ownsRow w.heap.size 219 2 (.slice ao (k+1) cp) (k+1) (lcells (fun j=>if j=k then p4 else pv j) l wd (k+1)):=by
        rw [←lcells_succ]
        rw [←HRE.out,←HD.out,←HZ0.out]
        refine ownsRow_heap (w:=w6) ?_ fun g hg=>?_
        · have:=HOWN.out;exact this
        · rw [hw7];exact Below.heap_setCell _ _ _ _ (by intro e;exact hne' (by rw [hg,e]))
       have HVK:∀ j,j<k+1→Hold w.heap.size pw (.slice ao (k+1) cp) w7 (fun W=>IsVec W ((fun j=>if j=k then p4 else pv j) j) (Wv.digs (Wv.rows l wd j) (wd-1-j))):=fun j hj=>by
        have hlast:∀ {v:Value} (x:World),Moved w5 v (.slice ao (k+1) cp)→x.heap.size≤w5.heap.size→Moved x v (.slice ao (k+1) cp):=fun x hm hx=>by
         rcases hm with e | ⟨k,e,hk⟩
         · exact Or.inl e
         · exact Or.inr ⟨k,e,by omega⟩
        by_cases hjk:j<k
        · have hne:¬ j=k:=by omega
          simp only [if_neg hne]
          exact (HV.out j hjk).step (F07 w.heap.size) (by omega) (hlast wo HMV.out (by omega))
        · obtain rfl:j=k:=by omega
          simp only [if_pos]
          rw [←HRE.out,←HD.out]
          have hzr:=HI.out.size
          exact (FR5.out.hold (B:=w.heap.size) (pw:=pw) (v:=lv) (by omega) (fun b hb=>by have:=(HLT2.out b hb).2;omega) (by omega)).step (F57 w.heap.size) (by omega) HMV.out
       have HB7:Below w.heap.size w w7:=by
        rw [hw7]
        refine Below.setCell ?_ (by omega) _
        exact (below_then HB.out HBo5.out).grown HGR.out (by omega) (fun k hk=>(HLT2.out k hk).1)
       have hpw7:pw<w7.heap.size:=by omega
       have hown7:∀ b,(Value.slice ao (k+1) cp).ownBlock=some b→b<w7.heap.size:=fun b hb=>(HO7.lt b hb).2
       have PT:=hid (wpart_any a (some ⟨wo.heap.size,0,none⟩) i cap i d R w7 HRL.out (by omega) NR7 (bcells_row BO7))
       have HHO7:=hid HO7
       have HHVK:=hid HVK
       have HHB7:=hid HB7
       have HBW7:=hid BW7
       have HOWN7:=hid hown7
       have HNE7:=hid hne'
       clear HO7 HVK HB7 BW7 hown7 hne' F07 F57 NR7 BO7 hw7 B6 B6' c6 f6 HOWN HGR HMV HV HR HO BO ROW FR5 BW5 HO5 BO5 HBo5 BW
       go_wp2_with (go_at_call 179;refine PT.out.mono ?_;rintro e w8 ⟨a8,cap8,rfl,h81,h82,h83,hB8,hF8⟩)
       have HB8:=hid hB8
       have hrw:Wv.part R d=Wv.rows l wd (k+1):=by rw [HRE.out,HD.out];rfl
       rw [hrw] at hF8
       have HF8:=hid hF8
       clear hB8 hF8 hrw
       go_roundw
       case rel=>
        refine ⟨k+1,cap8,a8,fun j=>if j=k then p4 else pv j,_,rfl,by have:=HD.out;congr 1;omega,by omega,hid ?_,hid (rgown_below HHO7.out HB8.out),hid (HBW7.out.keep HB8.out),hid fun j hj=>(HHVK.out j hj).same HB8.out,HNE7,hid (below_then HHB7.out HB8.out)⟩
        exact HF8.out.hold (by omega) HOWN7.out (Nat.zero_le _)
       case measure=>simp [intOf]
  · obtain rfl:k=wd:=by omega
    have hlev:∀ (w'':World),(∀ b,w.heap.size≤b→b<wr.heap.size→w''.heap[b]?=wr.heap[b]?)→IsWave w'' pw l k:=fun w'' hw''=>by
     refine ⟨hw20,by rw [←HN.out];exact hn1000,HLT.out,?_⟩
     have hpl:=BW.out.lt
     have BW2:Blk w'' pw [.int .i64 n,lv] 182:=by
      have h:=BW.out
      unfold Blk at *
      rw [hw'' pw (by omega) hpl];exact h
     have hO:=HO.out
     rcases hO.2 with ⟨rfl,h0⟩ | ⟨g,cp,cur,rfl,hg,hrest⟩
     · subst h0
       exact ⟨none,0,by rw [←HN.out];exact BW2.cell rfl,BW2.cell rfl,Or.inl rfl⟩
     · refine ⟨some ⟨g,0,none⟩,cp,by rw [←HN.out];exact BW2.cell rfl,BW2.cell rfl,Or.inr ⟨g,rfl,fun j hj=>?_⟩⟩
       obtain ⟨e1,e2⟩:=lcells_get pv l k k j hj
       have hgl:=(hO.lt g rfl).2
       have hcell:∀ o x,(lcells pv l k k)[o]?=some x→w''.cell? ⟨g,o,none⟩=some x:=fun o x hx=>by
        rw [cell_heap (hw'' g hg hgl)]
        have:=hO.cells (g:=g) rfl o x hx
        rwa [add_cell rfl,Nat.zero_add] at this
       refine ⟨pv j,hcell _ _ e1,hcell _ _ e2,?_⟩
       exact HV.out j hj w'' fun b hB hb _ _=>hw'' b hB hb
    have HLEV:=hid hlev
    clear hlev
    rw [show ((k:Int)-1-k) = -1 by omega]
    go_wp2
    go_ret2
    exact ⟨pw,rfl,HB.out,HLEV.out⟩
end Go.Proofs.YtjaebndajhppgaaGreatDoor
