import Derived.Shelf.Bits.Mul64
import Derived.Laws.CopyOwn
import Derived.Deep.RegionLaw
import Derived.Test.YtkdalopokdhndaaGreatRmSZ
set_option maxHeartbeats 16000000
set_option maxRecDepth 100000
namespace Go.Proofs
open Go.Shelf
def Tryz.lays212_ren:Go.Shelf.Ren:=⟨fun|212=>227|263=>240|264=>241|n=>n,fun|46=>143|51=>203|146=>254|53=>205|148=>256|n=>n,fun|n=>n⟩
theorem Tryz.lays212:Go.Proofs.Lays.n212 Tryz.prog Tryz.lays212_ren:={
 mixed:=by kernel_rfl
 f212:=Tryz.func227.trans (congrArg some (by kernel_rfl))
 f263:=Tryz.func240.trans (congrArg some (by kernel_rfl))
 f264:=Tryz.func241.trans (congrArg some (by kernel_rfl))
 t46:=Tryz.underlying143
 a46:=Tryz.isAgg143
 z46:=Tryz.sizeOf143
 v46:=Tryz.zeroValue143
 t51:=Tryz.underlying203
 a51:=Tryz.isAgg203
 z51:=Tryz.sizeOf203
 v51:=Tryz.zeroValue203
 t53:=Tryz.underlying205
 a53:=Tryz.isAgg205
 z53:=Tryz.sizeOf205
 v53:=Tryz.zeroValue205
 t146:=Tryz.underlying254
 a146:=Tryz.isAgg254
 z146:=Tryz.sizeOf254
 v146:=Tryz.zeroValue254
 t148:=Tryz.underlying256
 a148:=Tryz.isAgg256
 z148:=Tryz.sizeOf256
 v148:=Tryz.zeroValue256 }
open Go.RowKit Go.Lib in
theorem Tryz.bits_Mul (x y:Nat)(hx:x<18446744073709551616)(hy:y<18446744073709551616)(w:World) :
  Calls Tryz.prog 227 #[.int .u64 x,.int .u64 y] w fun e w'=>e=.returned (.tuple #[.int .u64 ((x * y / 18446744073709551616:Nat):Int),.int .u64 ((x * y % 18446744073709551616:Nat):Int)])∧w'=w:=Any.bits_Mul Tryz.lays212 x y hx hy w
end Go.Proofs
namespace Go.Proofs.YtkdalopokdhndaaGreat
open Go.RowKit
variable {w w':World}{b j k m n:Nat}{v:Value}
theorem Tryz.sizeIntR:(Tryz.prog.info? 3).map (·.size)=some 1:=by kernel_rfl
def InAt (w:World)(b n:Nat)(M:Nat->Int):Prop:=b<w.heap.size∧∀ i,i<n->w.cell? ⟨b,i,none⟩=some (.int .i64 (M i))∧w.frozen? ⟨b,i,none⟩=false
theorem InAt.below {M:Nat->Int}(h:InAt w b n M)(hb:Below w.heap.size w w'):InAt w' b n M :=
 ⟨nT h.1 hb.size,fun i hi=>⟨(hb.cell (by exact h.1)).trans (h.2 i hi).1,(hb.frozen (by exact h.1)).trans (h.2 i hi).2⟩⟩
theorem InAt.set {M:Nat->Int}(h:InAt w b n M)(hj:j<n)(x:Int):InAt (w.setCell ⟨b,j,none⟩ (.int .i64 x)) b n (fun i=>if i=j then x else M i):=by
 refine ⟨by simpa [World.setCell] using h.1,fun i hi=>⟨?_,by rw [World.frozen?_setCell];exact (h.2 i hi).2⟩⟩
 by_cases e:i=j
 ·subst e;rw [set_same ⟨_,(h.2 i hi).1⟩];simp
 rw [set_far e,(h.2 i hi).1];simp [e]
theorem InAt.congr {M M':Nat->Int}(h:InAt w b n M)(he:∀ i,i<n->M i=M' i):InAt w b n M':=⟨h.1,fun i hi=>by rw [<- he i hi];exact h.2 i hi⟩
theorem make_intR (n:Nat)(h:n<=1000000)(W:World) :
  (Instr.makeSlice 93 (.int .i64 (n:Int)) (.int .i64 (n:Int))).run Tryz.prog W=.ok (.slice (some ⟨W.heap.size,0,none⟩) n n) (W.alloc (.cells (madeCells #[.int .i64 0] n) 3)):=by
 obtain ⟨i0,hi,hz0,hz1,hz2⟩:=info_parts Tryz.infoIntO
 have:=run_make (P:=Tryz.prog) W 93 3 i0 (.int .i64 0) Tryz.underlying93 hi hz0 .i64 .i64 (n:Int) (n:Int) (by omega) (by omega) (by rw [hz2];omega) (by omega);rw [this,hz1];simp [Value.cells]
def nums (x:Int)(n k:Nat):List Value:=List.replicate k (.int .i64 x) ++ List.replicate (n - k) (.int .i64 0)
theorem nums_len {x:Int}(h:k<=n):(nums x n k).length=n:=by simp [nums];omega
theorem nums_splice {x:Int}(h:k+m<=n):splice (nums x n k) k (List.replicate m (.int .i64 x))=nums x n (k+m):=by
 unfold splice nums;rw [List.take_append_of_le_length (by simp),List.take_of_length_le (by simp),List.length_replicate,List.drop_append,List.length_replicate,List.drop_of_length_le (by simp),List.drop_replicate,List.nil_append,<- List.append_assoc,List.replicate_append_replicate]
 congr 2
 omega
theorem nums_cell {x:Int}{t:TypeId}(h:w.heap[b]?=some (.cells (nums x n k).toArray t (0,0)))(i:Nat)(hi:i<k):w.cell? ⟨b,i,none⟩=some (.int .i64 x):=by
 simp [World.cell?,h,nums,List.getElem?_append,hi]
theorem nums_zero (x:Int)(n:Nat):madeCells #[.int .i64 0] n=(nums x n 0).toArray:=by
 apply Array.toList_inj.1;rw [toList_madeCells_one];simp [nums]
theorem addr_addI (b i:Nat):(⟨b,0,none⟩:Addr).add i=⟨b,i,none⟩:=by
 unfold Addr.add
 by_cases h:i=0 <;> simp [h]
theorem rep_srcI {x:Int}{cs:List Value}(hc:cs=List.replicate m (.int .i64 x))(h:∀ i,i<m->w.cell? ((⟨b,0,none⟩:Addr).add i)=some (.int .i64 x))(hv:cs[j]?=some v):w.cell? ((⟨b,0,none⟩:Addr).add j)=some v:=by
 subst hc
 have hj:j<m:=by
  rcases Nat.lt_or_ge j m with h'|h'
  ·exact h'
  rw [List.getElem?_eq_none (by simpa using h')] at hv;cases hv
 rw [h j hj];simpa [hj] using hv
theorem rep_oneI {x:Int}(v:Value)(h:v ∈ List.replicate m (Value.int .i64 x)):v.oneCell'=true:=by
 rw [(List.mem_replicate.1 h).2];rfl
theorem repI_any (x:Int)(n B:Nat)(w:World)(hn:n<=300)(hB:B<w.heap.size)(hc:w.cell? ⟨B,0,none⟩=some (.int .i64 x)) :
  Calls Tryz.prog 185 #[.slice (some ⟨B,0,none⟩) 1 1,.int .i64 n] w fun e w'=>∃ b,e=.returned (.slice (some ⟨b,0,none⟩) n n)∧w.heap.size<=b∧InAt w' b n (fun _=>x)∧Below w.heap.size w w':=by
 have hmk:=make_intR n (by omega) w;rw [nums_zero x] at hmk;have hg0:(w.alloc (.cells (nums x n 0).toArray 3)).heap[w.heap.size]?=some (.cells (nums x n 0).toArray 3 (0,0)):=by show (w.heap.push _)[w.heap.size]?=_;simp
 have hb0:Below w.heap.size w (w.alloc (.cells (nums x n 0).toArray 3)):=bA;have hcB:(w.alloc (.cells (nums x n 0).toArray 3)).cell? ⟨B,0,none⟩=some (.int .i64 x):=(hb0.cell (by exact hB)).trans hc
 go_enter Tryz.func185,Tryz.ntmps185
 go_wp2_with fail
 refine (Tryz.bits_Mul 1 n (by decide) (by omega) w).mono ?_;rintro e w1 ⟨rfl,hw1⟩;subst hw1;rw [show 1 * n / 18446744073709551616=0 by omega,show 1 * n % 18446744073709551616=n by omega];obtain ⟨c1,hc1⟩:∃ c1:List Value,c1=List.replicate (min 1 n) (.int .i64 x):=⟨_,rfl⟩;have Hc1:Hid (c1=List.replicate (min 1 n) (.int .i64 x)):=hc1;have hl1:c1.length=min 1 n:=by rw [hc1];simp
 clear hc1
 have hp1:∀ j v,c1[j]?=some v->(w1.alloc (.cells (nums x n 0).toArray 3)).cell? ((⟨B,0,none⟩:Addr).add j)=some v:=fun j v hv=>rep_srcI Hc1.out (fun i hi=>by
  have:i=0:=by omega
  subst this;exact hcB) hv
 have hf1:0+c1.length<=(nums x n 0).length:=by rw [nums_len nz];omega
 have ho1:∀ v ∈ c1,v.oneCell'=true:=by rw [Hc1.out];exact rep_oneI
 have hs1:Hid (∀ w':World,w'.heap[w1.heap.size]?=some (.cells (splice (nums x n 0) 0 c1).toArray 3 (0,0))->w'.heap[w1.heap.size]?=some (.cells (nums x n (min 1 n)).toArray 3 (0,0))):=fun w' h=>by
  rw [Hc1.out,nums_splice (by omega),Nat.zero_add] at h;exact h
 have Hp1:Hid (_):=hp1;have Hf1:Hid (_):=hf1;have Ho1:Hid (_):=ho1;clear hp1 hf1 ho1
 go_wp2_with (refine wpList_copy_splice rfl _ _ 93 93 rfl 3 Tryz.underlying93 Tryz.sizeIntR _ _ _ _ _ _ rfl rfl w1.heap.size 0 (nums x n 0) 3 hg0 c1 hl1 (fun _=>⟨rfl,_,rfl,Hp1.out⟩) Hf1.out Ho1.out w1.heap.size w1 hb0 nL ?_;intro w2 hg2 hb2)
 clear Hp1 Hf1 Ho1 hcB hg0 hmk hb0 hc;have hg2':Hid (w2.heap[w1.heap.size]?=some (.cells (nums x n (min 1 n)).toArray 3 (0,0))):=hs1.out w2 hg2.out;clear hg2 hs1
 go_loopw [8] (fun kv wr=>∃ k:Nat,kv=.int .i64 k∧min 1 n<=k∧k<=n∧Hid (wr.heap[w1.heap.size]?=some (.cells (nums x n k).toArray 3 (0,0)))∧Below w1.heap.size w1 wr) (fun kv _=>n - (intOf kv).toNat)
 case atStart=>exact ⟨min 1 n,rfl,nL,by omega,hg2'.out,hb2⟩
 case round =>
  obtain ⟨k,rfl,hk1,hk,hgk,hbel⟩:=hrel
  by_cases hlt:k<n
  ·obtain ⟨c2,hc2⟩:∃ c2:List Value,c2=List.replicate (min k (n - k)) (.int .i64 x):=⟨_,rfl⟩
   have Hc2:Hid (c2=List.replicate (min k (n - k)) (.int .i64 x)):=hc2;have hl2:c2.length=Nat.min k (n - k):=by rw [hc2];simp [Nat.min_def]
   clear hc2;have hp2:∀ j v,c2[j]?=some v->wr.cell? ((⟨w1.heap.size,0,none⟩:Addr).add j)=some v:=fun j v hv=>rep_srcI Hc2.out (fun i hi=>by have:=nums_cell hgk.out i (by omega);rw [addr_addI];exact this) hv
   have hm:Nat.min k (n - k)=min k (n - k):=rfl;have hf2:k+c2.length<=(nums x n k).length:=by rw [nums_len hk];omega
   have ho2:∀ v ∈ c2,v.oneCell'=true:=by rw [Hc2.out];exact rep_oneI
   have hs2:Hid (∀ w':World,w'.heap[w1.heap.size]?=some (.cells (splice (nums x n k) k c2).toArray 3 (0,0))->w'.heap[w1.heap.size]?=some (.cells (nums x n (k+c2.length)).toArray 3 (0,0))):=fun w' h=>by
    rw [hl2,hm];rw [Hc2.out,nums_splice (by omega)] at h;exact h
   have hc0:0<c2.length:=by omega
   have hne:¬ n=k:=by omega
   have Hw:Hid (IntKind.i64.wrap ((k:Int)+((Nat.min k (n - k):Nat):Int))=((k+c2.length:Nat):Int)):=by
    unfold Hid;rw [<- hl2,IntKind.wrap_i64];omega
   have hc3:k+c2.length<=n:=by omega
   have Hp2:Hid (_):=hp2;have Hf2:Hid (_):=hf2;have Ho2:Hid (_):=ho2;clear hp2 hf2 ho2 hm
   go_wp2_with fail
   go_region_law (refine step_copy_splice rfl (.tmp 41) (.tmp 44) 93 93 rfl 3 Tryz.underlying93 Tryz.sizeIntR (some ⟨w1.heap.size,k,none⟩) (some ⟨w1.heap.size,0,none⟩) (n - k) (n - k) k n (by simp [Act.eval,Act.put]) (by simp [Act.eval,Act.put]) w1.heap.size k (nums x n k) 3 hgk.out c2 hl2 (fun _=>⟨rfl,_,rfl,Hp2.out⟩) Hf2.out Ho2.out w1.heap.size w1 (by first|exact hbel|exact hbel.drew|exact hbel.drew.drew|exact hbel.drew.drew.drew) nL ?_;intro w4 hg4 hb4)
   all_goals
    simp [Act.put];go_wp2
    go_roundw
    case rel =>
     exact ⟨k+c2.length,congrArg _ Hw.out,by omega,hc3,hs2.out _ hg4.out,(by first|exact hb4|exact hb4.drew|exact hb4.drew.drew)⟩
    case measure =>
     simp only [intOf,Hw.out];omega
  have hkn:k=n:=by omega
  subst hkn;go_wp2
  go_ret;refine ⟨_,rfl,nL,⟨?_,fun i hi=>⟨nums_cell hgk.out i hi,?_⟩⟩,hbel⟩
  ·rcases Nat.lt_or_ge w1.heap.size wr.heap.size with h'|h'
   ·exact h'
   have:=hgk.out;rw [Array.getElem?_eq_none h'] at this;cases this
  simp [World.frozen?,hgk.out]
end Go.Proofs.YtkdalopokdhndaaGreat
namespace Go.Proofs.YtkdalopokdhndaaGreat
open Go.RowKit Go.Maps Go.ChangeMaps
variable {e:Ev}{a ra:Option Addr}{m n p rc cap base base':Nat}{E:Nat->Ev}{X:Nat->Int}{w w':World}{s:ByteArray}{v:Value}
theorem isPow_ty {b:Bool}(h:isPow e=b):(e.ty.toList == [112,111,119,101,114])=b:=h
theorem powI_sl (w:World)(hroom:roomTo E n=true)(hp:p<n)(h:SlV w a n cap E)(hr:SlL w ra n rc (restN E) (restV E)) :
  Calls Tryz.prog 117 #[.agg #[.slice a n cap,.map (some m),.slice ra n rc],.int .i64 (p:Int)] w fun e w'=>e=.returned (.int .i64 (pwV E n p))∧Below w.heap.size w w':=by
 have h300:=room_300 hroom;rcases h.cells with h0|⟨b,off,rfl,hb,hc⟩
 ·omega
 rcases hr.cells with h0|⟨br,orr,rfl,hbr,hcr⟩
 ·omega
 obtain ⟨xa,xc,hx0,hxs⟩:=hcr p hp;have hx:w.cell? ⟨br,orr+p,none⟩=some (.slice xa (E p).na xc):=hx0;have hna:(E p).na<=maxLen:=nZ hxs.le hxs.max;unfold maxLen at hna;have hb0:Below w.heap.size w (w.alloc (.cells #[.slice (some ⟨b,off,none⟩) n cap,.map (some m),.slice (some ⟨br,orr,none⟩) n rc] 62)):=bA;have Hroom:Hid (_):=hroom;have Hend:Hid (∀ x,x=pwV E n p->Ending.returned (.int .i64 x)=.returned (.int .i64 (pwV E n p))):=fun x hx=>by rw [hx]
 clear hx0 hcr h hr hroom
 go_enter Tryz.func117,Tryz.ntmps117
 go_wp2_with fail
 go_loop [13] (fun i=>∃ k:Nat,k<=(E p).na∧i=.int .i64 k∧Hid (∀ i,i<k->isPow (E (posV E n ((E p).Av i)).toNat)=false)) (fun i=>(E p).na - (intOf i).toNat)
 case atStart=>exact ⟨0,nz,rfl,fun i hi=>absurd hi (Nat.not_lt_zero _)⟩
 case round =>
  obtain ⟨k,hk,rfl,hto⟩:=hrel
  by_cases hlt:k<(E p).na
  ·rcases hxs.cells with h0|⟨bx,ox,rfl,hbx,hcx⟩
   ·exact absurd h0 (by show ¬ (E p).na=0;omega)
   obtain ⟨y,hy,ey,_⟩:=auth_there Hroom.out hp hlt;have hyr:posV E p ((E p).Av k)=(y:Int):=(room_auth Hroom.out hp hlt).2.2.trans ey;have hcy:w.cell? ⟨bx,ox+k,none⟩=some (.int .i64 (y:Int)):=by rw [<- hyr];exact hcx k hlt
   have hyn:y<n:=by omega
   obtain ⟨_,_,_,_,_,_,hec,_⟩:=hc y hyn;have hty:=hec.c2;have Hey:Hid (_=_):=ey;clear hcx hec ey hyr hc hxs;cases hq:isPow (E y)
   case false =>
    have hqt:=isPow_ty hq
    have Hto:Hid (∀ i,i<k+1->isPow (E (posV E n ((E p).Av i)).toNat)=false):=fun i hi=>by
     by_cases e:i=k
     ·subst e;rw [Hey.out,Int.toNat_natCast];exact hq
     exact hto.out i (by omega)
    clear hto hq;go_wp2
    go_round
    case rel=>exact ⟨k+1,by omega,by go_num,Hto⟩
    simp [intOf];omega
   case true =>
    have hqt:=isPow_ty hq;have Hh:Hid ((y:Int)=pwV E n p):=(scTo_hit hlt hto.out Hey.out hq).symm;clear hto hq;go_wp2
    go_ret;exact ⟨Hend.out _ Hh.out,hb0⟩
  have Hh:Hid ((-1:Int)=pwV E n p):=(scTo_miss _ (fun i hi=>hto.out i (by omega))).symm;go_wp2
  go_ret;exact ⟨Hend.out _ Hh.out,hb0⟩
def IaPost (w:World)(E:Nat->Ev)(X:Nat->Int)(m:Nat)(e:Ending)(w':World):Prop :=
 ∃ v,e=.returned v∧OwnT w' w.heap.size v m (fun k=>(E (X k).toNat).id)∧Below w.heap.size w w'
theorem idsI_any (b off n cap:Nat)(E:Nat->Ev)(mm:Option Nat)(ra:Option Addr)(nr rc:Nat)(B O m cb:Nat)(X:Nat->Int)(w:World)(hm:m<=1048576)(hb:b<w.heap.size)(hB:B<w.heap.size)
  (hc:∀ i,i<n->w.cell? ⟨b,off+i * 10,none⟩=some (.string (E i).id)) (hX:∀ k,k<m->w.cell? ⟨B,O+k,none⟩=some (.int .i64 (X k))) (hXn:∀ k,k<m->∃ p,p<n∧X k=(p:Int)) :
  Calls Tryz.prog 52 #[.agg #[.slice (some ⟨b,off,none⟩) n cap,.map mm,.slice ra nr rc],.slice (some ⟨B,O,none⟩) m cb] w (IaPost w E X m):=by
 obtain ⟨i0,hi,hz0,hz1,hz2⟩:=info_parts Tryz.infoString;obtain ⟨wb,hwb⟩:∃ wb,wb=w.alloc (.cells #[.slice (some ⟨b,off,none⟩) n cap,.map mm,.slice ra nr rc] 62):=⟨_,rfl⟩;have hb0:Below w.heap.size w wb:=by rw [hwb];exact bA
 have hs0:wb.heap.size=w.heap.size+1:=by rw [hwb];simp
 have hbx:Hid (∀ wx,Below (w.heap.size+1) wb wx->wx.cell? ⟨w.heap.size,0,none⟩=some (.slice (some ⟨b,off,none⟩) n cap)):=fun wx hx=>by subst hwb;exact box_cells hx 0
 have HX:Hid (_):=hX;have HXn:Hid (_):=hXn;clear hX hXn
 go_enter Tryz.func52,Tryz.ntmps52
 go_wp2_with fail
 rw [<- hwb]
 go_loopw [5,10] (fun v i wr=>∃ k:Nat,k<=m∧i=.int .i64 k∧OwnT wr (w.heap.size+1) v k (fun k=>(E (X k).toNat).id)∧Below (w.heap.size+1) wb wr) (fun _ i _=>m - (intOf i).toNat)
 case atStart=>exact ⟨0,nz,rfl,OwnT.nil _ _ _,kB⟩
 case round =>
  obtain ⟨k,hk,rfl,hown,hbl⟩:=hrel;have hbw:=hb0.trans (hbl.mono (by omega));have hbx0:=hbx.out _ hbl;have hso:w.heap.size+1<=wr.heap.size:=by have:=hbl.size;omega
  by_cases hlt:k<m
  ·obtain ⟨p,hp,ep⟩:=HXn.out k hlt
   have hxk:wr.cell? ⟨B,O+k,none⟩=some (.int .i64 (p:Int)):=by rw [<- ep];exact (hbw.cell (by exact hB)).trans (HX.out k hlt)
   have hek:wr.cell? ⟨b,off+p * 10,none⟩=some (.string (E p).id):=(hbw.cell (by exact hb)).trans (hc p hp);have Hx:Hid ((E p).id=(E (X k).toNat).id):=by show _=_;rw [ep,Int.toNat_natCast]
   have hm1:k+1<=maxLen:=by unfold maxLen;omega
   have hm2:(k+1) * 16<=140737488355328:=by omega
   have hm3:∀ o,w.heap.size+1<=(wr.alloc o).heap.size:=fun o=>by simp;omega
   have hag:Hid (∀ q',u5.ownBlock=some q'->w.heap.size+1<=q'):=fun q' hq'=>(World.ownsRow.lt hown q' hq').1
   clear hc ep
   go_wp2_with (at_builtin;refine wpList_append_own _ rfl _ _ 27 rfl (w.heap.size+1) 9 i0 (.string ByteArray.empty) 1 16 Tryz.underlying27 hi hz0 hz1 hz2 rfl (by decide) _ _ _ rfl (World.ownsRow.alloc hown _) ⟨wr.heap.size,0,none⟩ 1 1 [.string (E p).id] rfl rfl (one_cells _ _ _) (one_one _) hm1 hm2 (hm3 _) ?_;intro v2 w2 hown2 hgrow2 _)
   have hown3:OwnT w2 (w.heap.size+1) v2 (k+1) (fun k=>(E (X k).toNat).id):=OwnT.snoc hown2 Hx.out;have hB2:Below (w.heap.size+1) wb w2:=(hbl.alloc (by omega) _).grown hgrow2 (hm3 _) hag.out;go_roundw
   case rel=>exact ⟨k+1,by omega,by go_num,hown3,hB2⟩
   simp [intOf];omega
  have hkm:k=m:=by omega
  subst hkm;go_wp2
  go_ret;exact ⟨_,rfl,hown.mono (by omega),hbw⟩
theorem idsI_zero (a:Option Addr)(n cap:Nat)(E:Nat->Ev)(mm:Option Nat)(ra:Option Addr)(nr rc:Nat)(B:Option Addr)(cb:Nat)(X:Nat->Int)(w:World) :
  Calls Tryz.prog 52 #[.agg #[.slice a n cap,.map mm,.slice ra nr rc],.slice B 0 cb] w (IaPost w E X 0):=by
 go_enter Tryz.func52,Tryz.ntmps52
 go_wp2_with fail
 refine wp_loop_rounds 1 ?_;rw [rounds_succ];go_wp2
 go_ret;exact ⟨_,rfl,OwnT.nil _ _ _,bA⟩
theorem idsI_sl {mm:Option Nat}{nr:Nat}{B:Option Addr}{cb:Nat}(w:World)(hm:m<=1048576)(h:SlV w a n cap E)(hX:SlI w B m cb X)(hXn:∀ k,k<m->∃ p,p<n∧X k=(p:Int)) :
  Calls Tryz.prog 52 #[.agg #[.slice a n cap,.map mm,.slice ra nr rc],.slice B m cb] w (IaPost w E X m):=by
 rcases hX.cells with rfl|⟨g,O,rfl,hg,hc⟩
 ·exact idsI_zero a n cap E mm ra nr rc B cb X w
 rcases h.ids with rfl|⟨b,off,rfl,hb,hcs⟩
 ·rcases Nat.eq_zero_or_pos m with rfl|h0
  ·exact idsI_zero a 0 cap E mm ra nr rc _ cb X w
  obtain ⟨p,hp,_⟩:=hXn 0 h0;omega
 exact idsI_any b off n cap E mm ra nr rc g O m cb X w hm hb hg hcs hc hXn
def MnPost (w:World)(E:Nat->Ev)(n:Nat)(s:ByteArray)(e:Ending)(w':World):Prop:=Below w.heap.size w w' ∧
 ∃ v,e=.returned (.tuple #[v,.bool (mlOk E n s)])∧OwnI w' w.heap.size v (mlL E n s).length (lX (mlL E n s))
theorem MnPost.no (h:mlOk E n s=false)(hb:Below w.heap.size w w'):MnPost w E n s (.returned (.tuple #[.slice none 0 0,.bool false])) w':=by
 refine ⟨hb,_,by rw [h],?_⟩;unfold mlL;rw [h];exact OwnI.nil _ _ _
theorem MnPost.yes {l:List Nat}(h:mlOk E n s=true)(hl:l=ln E n (posV E n s))(hb:Below w.heap.size w w')(ho:OwnI w' w.heap.size v l.length (lX l)):MnPost w E n s (.returned (.tuple #[v,.bool true])) w':=by
 refine ⟨hb,v,by rw [h],?_⟩;unfold mlL;rw [h,if_pos rfl,<- hl];exact ho
theorem OwnI.monoM (h:OwnI w base v n X)(hb:base'<=base):OwnI w base' v n X:=by
 obtain ⟨h1,h2⟩:=h;exact ⟨h1,h2.imp id fun ⟨g,cap,cur,e,hg,r⟩=>⟨g,cap,cur,e,nZ hb hg,r⟩⟩
theorem lineI_sl (s:ByteArray)(hs:s.size<=maxLen)(w:World)(hroom:roomTo E n=true)(h:SlV w a n cap E)(hm:MapAt w m n (knE E n) (posV E n))(hr:SlL w ra n rc (restN E) (restV E)) :
  Calls Tryz.prog 60 #[.agg #[.slice a n cap,.map (some m),.slice ra n rc],.string s] w (MnPost w E n s):=by
 have h300:=room_300 hroom;obtain ⟨i0,hi,hz0,hz1,hz2⟩:=info_parts Tryz.infoIntO;obtain ⟨wb,hwb⟩:∃ wb,wb=w.alloc (.cells #[.slice a n cap,.map (some m),.slice ra n rc] 62):=⟨_,rfl⟩;have hb0:Below w.heap.size w wb:=by rw [hwb];exact bA
 have hs0:wb.heap.size=w.heap.size+1:=by rw [hwb];simp
 have hbx:Hid (∀ wx,Below (w.heap.size+1) wb wx->∀ o,wx.cell? ⟨w.heap.size,o,none⟩=(#[.slice a n cap,.map (some m),.slice ra n rc]:Array Value)[o]?):=fun wx hx=>by subst hwb;exact box_cells hx
 have Hroom:Hid (_):=hroom;have hbA:Below w.heap.size w (w.alloc (.cells #[.slice a n cap,.map (some m),.slice ra n rc] 62)):=bA;cases hse:s.toList.isEmpty
 case true =>
  have hq:Hid (mlOk E n s=true):=by unfold Hid mlOk;rw [hroom,hse];rfl
  have hl:Hid (([]:List Nat)=ln E n (posV E n s)):=by unfold Hid;rw [posV_empty hroom hse,ln_neg _ _ (by decide)]
  clear hroom
  go_enter Tryz.func60,Tryz.ntmps60
  go_wp2
  refine bodyPost_ret (v:=.tuple #[.slice none 0 0,.bool true]) (by simp [results,Tryz.results60,go_sem]) rfl (MnPost.yes hq.out hl.out hbA (OwnI.nil _ _ _))
 case false =>
  obtain ⟨D,hD,hK⟩:=hm.below hbA;have hkey:keyOf Tryz.prog 9 (.string s)=some (.string s.data.toList):=Go.WideMaps.keyOf_string_mk Tryz.underlying9 hs;have hhas:has D (.string s.data.toList)=knE E n s:=(hK s).1;have hat0:Hid (knE E n s=true->D.atKey (.string s.data.toList) (.lit (.int .i64 0))=.lit (.int .i64 (posV E n s))):=(hK s).2;clear hK;cases hkn:knE E n s
  case false =>
   rw [hkn] at hhas;have hneg:¬ (0<=posV E n s):=by simpa [knE] using hkn
   have hq:Hid (mlOk E n s=false):=by unfold Hid mlOk;rw [hroom,hse,decide_eq_false hneg];rfl
   clear hroom hneg hkn
   go_enter Tryz.func60,Tryz.ntmps60
   go_wp2_with (at_lookup;refine wpList_lookup_own_ok_int _ rfl _ _ 59 rfl 9 3 .i64 lawStr Tryz.underlying59 Tryz.underlying3 (zeroInt _) m n D rfl hD _ _ rfl hkey ?_;intro c hat hwc;rw [hhas])
   refine bodyPost_ret (v:=.tuple #[.slice none 0 0,.bool false]) (by simp [results,Tryz.results60,go_sem]) rfl (MnPost.no hq.out hbA)
  case true =>
   rw [hkn] at hhas;have hpos:0<=posV E n s:=by simpa [knE] using hkn
   have hat1:=hat0.out hkn
   obtain ⟨p,hp,ep⟩:∃ p:Nat,p<n∧posV E n s=(p:Int):=by
    have:=posV_bd E s n;exact ⟨(posV E n s).toNat,by omega,by omega⟩
   rcases h.cells with h0|⟨b,off,rfl,hb,hc⟩
   ·omega
   obtain ⟨_,_,_,_,_,_,hec,_⟩:=hc p hp;have hty:=hec.c2;rw [ep] at hat1;clear hec hc hkn;cases hpw:isPow (E p)
   case false =>
    have hqt:=isPow_ty hpw;have hq:Hid (mlOk E n s=false):=by unfold Hid mlOk;rw [hroom,hse,ep,Int.toNat_natCast,hpw];simp
    clear hroom hpos ep hpw
    go_enter Tryz.func60,Tryz.ntmps60
    go_wp2_with (at_lookup;refine wpList_lookup_own_ok_int _ rfl _ _ 59 rfl 9 3 .i64 lawStr Tryz.underlying59 Tryz.underlying3 (zeroInt _) m n D rfl hD _ _ rfl hkey ?_;intro c hat hwc;rw [hhas];have hcv:c=(p:Int):=by (have:=hat.symm.trans hat1;simpa using this))
    refine bodyPost_ret (v:=.tuple #[.slice none 0 0,.bool false]) (by simp [results,Tryz.results60,go_sem]) rfl (MnPost.no hq.out hbA)
   case true =>
    have hqt:=isPow_ty hpw;have hq:Hid (mlOk E n s=true):=by unfold Hid mlOk;rw [hroom,hse,ep,Int.toNat_natCast,hpw];simp
    obtain ⟨l,hl⟩:∃ l,l=ln E n (p:Int):=⟨_,rfl⟩;have Hl:Hid (l=ln E n (posV E n s)):=by unfold Hid;rw [ep];exact hl
    have Hl0:Hid (l.drop 0=ln E n (p:Int)):=by unfold Hid;rw [<- hl];rfl
    have hll:l.length<=300:=by rw [hl];have:=ln_len E n (p:Int);omega
    clear hroom hpos ep hpw hl
    go_enter Tryz.func60,Tryz.ntmps60
    go_wp2_with (at_lookup;refine wpList_lookup_own_ok_int _ rfl _ _ 59 rfl 9 3 .i64 lawStr Tryz.underlying59 Tryz.underlying3 (zeroInt _) m n D rfl hD _ _ rfl hkey ?_;intro c hat hwc;rw [hhas];have hcv:c=(p:Int):=by (have:=hat.symm.trans hat1;simpa using this))
    rw [<- hwb];clear hat hD hhas hkey hat1 hat0 hbA
    go_loopw [6,8] (fun q v wr=>∃ (qq:Int) (k:Nat),q=.int .i64 qq∧-1<=qq∧qq<n∧k<=l.length∧Hid (l.drop k=ln E n qq)∧OwnI wr (w.heap.size+1) v k (lX l)∧Below (w.heap.size+1) wb wr) (fun q _ _=>(intOf q+1).toNat)
    case atStart=>exact ⟨p,0,by first|rfl|rw [hcv]|simp [hcv],by omega,by omega,nz,Hl0,OwnI.nil _ _ _,kB⟩
    case round =>
     clear hcv Hl0;obtain ⟨qq,k,rfl,hq1,hq2,hk,hdr,hown,hbl⟩:=hrel;have hbw:=hb0.trans (hbl.mono (by omega));have hso:w.heap.size+1<=wr.heap.size:=by have:=hbl.size;omega
     by_cases hneg:qq=-1
     ·subst hneg
      have hke:k=l.length:=ln_end (by rw [hdr.out,ln_neg _ _ (by decide)]) hk;subst hke;go_wp2
      refine bodyPost_ret (v:=.tuple #[u8,.bool true]) (by simp [results,Tryz.results60,go_sem]) rfl (MnPost.yes hq.out Hl.out hbw (hown.monoM (by omega)))
     obtain ⟨y,rfl⟩:∃ y:Nat,qq=(y:Int):=⟨qq.toNat,by omega⟩;have hyn:y<n:=by omega
     obtain ⟨hx1,hx2,hx3⟩:=ln_at (hdr.out.trans (ln_cons Hroom.out hyn));have Hx1:Hid (_=_):=hx1;have Hx2:Hid (_=_):=hx2;have hbd:=pwV_bd Hroom.out hyn;have hyb:((y:Int) == -1)=false:=by simp
     have hyb2:((y:Int) != -1)=true:=by simp
     have hm1:k+1<=maxLen:=by unfold maxLen;omega
     have hm2:(k+1) * 8<=140737488355328:=by omega
     have hm3:∀ o,w.heap.size+1<=(wr.alloc o).heap.size:=fun o=>by simp;omega
     have hag:Hid (∀ q',u8.ownBlock=some q'->w.heap.size+1<=q'):=fun q' hq'=>(World.ownsRow.lt hown q' hq').1
     clear hx1 hx2 hdr hneg
     go_wp2_with (at_builtin;refine wpList_append_own _ rfl _ _ 93 rfl (w.heap.size+1) 3 i0 (.int .i64 0) 1 8 Tryz.underlying93 hi hz0 hz1 hz2 rfl (by decide) _ _ _ rfl (World.ownsRow.alloc hown _) ⟨wr.heap.size,0,none⟩ 1 1 [.int .i64 (y:Int)] rfl rfl (one_cellsI _ _ _) (one_oneI _) hm1 hm2 (hm3 _) ?_;intro v2 w2 hown2 hgrow2 _;have hB2:Below (w.heap.size+1) wb w2:=(hbl.alloc (by omega) _).grown hgrow2 (hm3 _) hag.out;have hbx2:=hbx.out _ hB2)
     have hw2:=hb0.trans (hB2.mono (by omega));have hso2:w.heap.size+1<=w2.heap.size:=by have:=hB2.size;omega
     refine (powI_sl _ Hroom.out hyn (h.below hw2) (hr.below hw2)).mono ?_;rintro e w3 ⟨rfl,hb3⟩;have hB3:=hB2.trans (hb3.mono hso2);have hown3:OwnI w3 (w.heap.size+1) v2 (k+1) (lX l):=(OwnI.snoc hown2 Hx1.out.symm).below hb3;generalize pwV E n y=z at *;go_wp2
     go_roundw
     case rel=>exact ⟨z,k+1,rfl,hbd.1,by omega,hx3,Hx2,hown3,hB3⟩
     simp [intOf];omega
theorem mlI_sl (s:ByteArray)(hs:s.size<=maxLen)(w:World)(h:SlV w a n cap E) :
  Calls Tryz.prog 23 #[.agg #[.slice a n cap],.string s] w (MlPost w E n s):=by
 have hb0:∀ o,Below w.heap.size w (w.alloc o):=fun o=>bA
 go_enter Tryz.func23,Tryz.ntmps23
 go_wp2_with fail
 refine (graph_sl _ (h.below (hb0 _))).mono ?_;rintro e w1 ⟨hb1,hp⟩;have hw1:=(hb0 _).trans (hb1.mono (hb0 _).size);rcases hp with ⟨hq,mm,ra,rc,rfl,hmp,hrs⟩|⟨hq,rfl⟩
 ·have Hq:Hid (_):=hq
  have hbA:∀ o,Below w1.heap.size w1 (w1.alloc o):=fun o=>bA
  clear hq hb1
  go_wp2_with fail
  refine (lineI_sl s hs _ Hq.out ((h.below hw1).below (hbA _)) (hmp.below (hbA _)) (hrs.below (hbA _))).mono ?_;rintro e w2 ⟨hb2,v,rfl,hown⟩;have hX2:=hb2.mono (B':=w1.heap.size+1) (by simp);have h12:=(hbA _).trans (hb2.mono (by simp));have hw2:=hw1.trans (h12.mono hw1.size);have hcx:=box_cells hX2;obtain ⟨ga,gc,rfl,hgi⟩:=hown.sl
  have hml:(mlL E n s).length<=1048576:=by
   have:=room_300 Hq.out
   have:=ln_len E n (posV E n s);unfold mlL;split
   ·omega
   simp
  have hmX:∀ k,k<(mlL E n s).length->∃ p,p<n∧lX (mlL E n s) k=(p:Int):=fun k hk=>lX_lt (n:=n) (fun i hi=>by
   unfold mlL at hi;split at hi
   ·exact ln_mem Hq.out (posV_bd E s n).2 i hi
   cases hi) hk
  have Hpost:Hid (∀ w' v,Below w.heap.size w w'->OwnT w' w.heap.size v (mlL E n s).length (fun k=>(E (lX (mlL E n s) k).toNat).id)->MlPost w E n s (.returned (.tuple #[v,.bool (mlOk E n s)])) w'):=fun w' v h1 h2=>⟨h1,v,rfl,h2⟩
  have HI:Hid (∀ W,SlV W a n cap E->SlI W ga (mlL E n s).length gc (lX (mlL E n s))->Calls Tryz.prog 52 #[.agg #[.slice a n cap,.map (some mm),.slice ra n rc],.slice ga (mlL E n s).length gc] W (IaPost W E (lX (mlL E n s)) (mlL E n s).length)):=fun W h1 h2=>idsI_sl W hml h1 h2 hmX
  generalize mlL E n s=l at *;generalize mlOk E n s=ok at *;clear hb2 hmX
  go_wp2_with fail
  refine (HI.out _ (h.below hw2) hgi).mono ?_;rintro e w3 ⟨v,rfl,ho,hb3⟩;have hw3:=hw2.trans (hb3.mono hw2.size);go_wp2
  refine bodyPost_ret (v:=.tuple #[v,.bool ok]) (by simp [results,Tryz.results23,go_sem]) rfl (Hpost.out _ _ hw3 (ho.mono hw2.size))
 have Hq:Hid (mlOk E n s=false):=by unfold Hid mlOk;rw [hq];rfl
 clear hq;go_wp2
 refine bodyPost_ret (v:=.tuple #[.slice none 0 0,.bool false]) (by simp [results,Tryz.results23,go_sem]) rfl (MlPost.no Hq.out (hw1.alloc hw1.size _) (fun S=>OwnT.nil _ _ S))
end Go.Proofs.YtkdalopokdhndaaGreat
