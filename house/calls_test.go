package house

// calls: the calls that the chapters list, by packages.
func calls() map[string]string {
	return map[string]string{
		"word": `
func Put(n uint64, size int) string
func Get(s string) (uint64, api.Errno)
func Cut(s string, sizes ...int) ([]string, api.Errno)
func Add(a, b uint64) uint64
func Sub(a, b uint64) uint64
func Digits(n uint64) string
func Number(s string) (uint64, api.Errno)
func Hex(s string) string
func Unhex(s string) (string, api.Errno)
`,
		"real": `
func Kind(x float64) int
func Cmp(a, b float64) int
func Same(a, b float64) bool
func Bytes(x float64) string
func Of(s string) (float64, api.Errno)
func Text(x float64) string
func Parse(s string) (float64, api.Errno)
func Least(l ...float64) float64
func Most(l ...float64) float64
func Hold(x, low, high float64) float64
func Whole(x float64, most uint64) uint64
func Ratio(a, b float64) float64
`,
		"sha": `
func Sum(parts ...string) api.Sum
func Text(parts ...string) string
func Keys() [64]uint32
func Whole(s string) string
func Step(h [8]uint32, block string) ([8]uint32, api.Errno)
func Start() [8]uint32
`,
		"hmac": `
func Sum(key string, parts ...string) string
func Same(a, b string) bool
func Derive(key, label string, n int) (string, api.Errno)
`,
		"aes": `
func New(key string) (Key, api.Errno)
func (k Key) Encrypt(b api.Block) api.Block
func (k Key) Rounds() [11]api.Block
func Box() [256]byte
func Times(a, b byte) byte
`,
		"ctr": `
func Block(nonce, counter uint64) api.Block
func Stream(k aes.Key, nonce uint64, n int) (string, api.Errno)
func Turn(k aes.Key, nonce uint64, s string) string
`,
		"seal": `
func New(key string) (Box, api.Errno)
func Nonce(seq uint64, down bool) (uint64, api.Errno)
func Seq(nonce uint64) (uint64, bool)
func Head(id api.ID, nonce uint64) string
func (b Box) Seal(id api.ID, nonce uint64, body string) string
func (b Box) Open(id api.ID, nonce uint64, s string) (string, api.Errno)
func Size(n int) int
`,
		"pool": `
func New(n int) (*Pool, api.Errno)
func (p *Pool) Get(s string) (int, api.Errno)
func (p *Pool) Read(i int) (string, api.Errno)
func (p *Pool) Write(i int, s string) api.Errno
func (p *Pool) Put(i int) api.Errno
func (p *Pool) Free() int
func (p *Pool) Held() []int
func (p *Pool) Raw(i int) string
func (p *Pool) Ever() uint64
`,
		"wire": `
func (d Datagram) Bytes() (string, api.Errno)
func Parse(s string) (Datagram, api.Errno)
func (p Part) Bytes() (string, api.Errno)
func Read(s string) (Part, api.Errno)
func Room() int
`,
		"frag": `
func Split(number uint64, text string, room int) ([]wire.Part, api.Errno)
func (m Maker) Add(p wire.Part) (Maker, string, bool, api.Errno)
func (m Maker) Whole() (string, bool)
func Join(l []wire.Part) (string, bool)
`,
		"screen": `
func New(w, h int) (Screen, api.Errno)
func (s Screen) Put(out string) Screen
func (s Screen) Size() (int, int)
func (s Screen) Cursor() (int, int)
func (s Screen) Cells() string
func (s Screen) Rows() []string
func (s Screen) Text() string
func Parse(t string) (Screen, api.Errno)
func Same(a, b Screen) bool
`,
		"delta": `
func Of(a, b screen.Screen) string
func Do(a screen.Screen, d string) (screen.Screen, api.Errno)
func Empty(d string) bool
func Size(a, b screen.Screen) int
`,
		"keys": `
func (k Keys) Type(s string) (Keys, api.Errno)
func (k Keys) Forget(n uint64) Keys
func (k Keys) Ends() (uint64, uint64)
func (k Keys) Since(n uint64) (string, api.Errno)
func Diff(a, b Keys) (string, api.Errno)
func Do(a Keys, d string) (Keys, api.Errno)
func Same(a, b Keys) bool
`,
		"clock": `
func (c Clock) Told(t uint64) Clock
func (c Clock) Count() uint64
func (c Clock) Smooth() uint64
func (c Clock) Wait() uint64
func (c Clock) Jitter() float64
func Stamp(now uint64) uint16
func Since(now uint64, stamp uint16) uint64
func Mean(l ...uint64) float64
`,
		"sender": `
func (i Instr) Text() string
func Parse(t string) (Instr, api.Errno)
func New[T any](first T, r Rule[T]) Sender[T]
func (s Sender[T]) Set(v T) Sender[T]
func (s Sender[T]) Current() T
func (s Sender[T]) First() T
func (s Sender[T]) Acked(n uint64) Sender[T]
func (s Sender[T]) Next(now, wait, beat, ack uint64) (Sender[T], Instr, bool)
func (s Sender[T]) Due(wait, beat uint64) uint64
func (s Sender[T]) Numbers() []uint64
func (s Sender[T]) Quiet() bool
`,
		"receiver": `
func New[T any](first T, r Rule[T]) Receiver[T]
func (x Receiver[T]) Take(i sender.Instr) (Receiver[T], bool, api.Errno)
func (x Receiver[T]) Latest() (uint64, T)
func (x Receiver[T]) Numbers() []uint64
func (x Receiver[T]) Of(n uint64) (T, bool)
`,
		"session": `
func New(id api.ID, key string, s Setting, now uint64) (Session, api.Errno)
func (s Session) Take(from api.Addr, text string, now uint64) (Session, Told, api.Errno)
func (s Session) Send(now uint64) (Session, []string, api.Errno)
func (s Session) Write(out string) (Session, api.Errno)
func (s Session) Close() Session
func (s Session) Screen() screen.Screen
func (s Session) Keys() keys.Keys
func (s Session) Peer() (api.Addr, bool)
func (s Session) Due() uint64
func (s Session) Seen() uint64
func (s Session) State() (closing, done, spent bool)
func (s Session) Next() (out, expect uint64)
func (s Session) ID() api.ID
func (s Session) Clock() clock.Clock
`,
		"client": `
func New(id api.ID, key string, s session.Setting) (Client, api.Errno)
func (c Client) Type(s string) (Client, api.Errno)
func (c Client) Take(text string, now uint64) (Client, bool, api.Errno)
func (c Client) Send(now uint64) (Client, []string)
func (c Client) Close() Client
func (c Client) Screen() screen.Screen
func (c Client) Pending() uint64
func (c Client) State() (closing, done bool)
func (c Client) Next() (out, expect uint64)
func (c Client) Clock() clock.Clock
`,
		"wheel": `
func New(now uint64) *Wheel
func (w *Wheel) Set(id api.ID, at uint64) api.Errno
func (w *Wheel) Cancel(id api.ID) api.Errno
func (w *Wheel) Advance(now uint64) ([]Timer, api.Errno)
func (w *Wheel) Now() uint64
func (w *Wheel) At(id api.ID) (uint64, bool)
func (w *Wheel) Len() int
func (w *Wheel) Next() (uint64, bool)
func (w *Wheel) All() []Timer
`,
		"table": `
func New[T any](shards, most int) (*Table[T], api.Errno)
func (t *Table[T]) Insert(id api.ID, v T) api.Errno
func (t *Table[T]) Get(id api.ID) (T, bool)
func (t *Table[T]) Put(id api.ID, v T) api.Errno
func (t *Table[T]) Remove(id api.ID) api.Errno
func (t *Table[T]) IDs() []api.ID
func (t *Table[T]) Len() int
func (t *Table[T]) Shard(id api.ID) int
func (t *Table[T]) Ever(id api.ID) bool
func (t *Table[T]) Where(keep func(id api.ID, v T) bool) []api.ID
`,
		"inbox": `
func New[T any](room int) (Inbox[T], api.Errno)
func (b Inbox[T]) Put(x T) (Inbox[T], api.Errno)
func (b Inbox[T]) Push(x T) Inbox[T]
func (b Inbox[T]) Take() (Inbox[T], T, bool)
func (b Inbox[T]) All() []T
func (b Inbox[T]) Len() int
func (b Inbox[T]) Dropped() uint64
`,
		"batch": `
func New(p *pool.Pool, most int) (*Batch, api.Errno)
func (b *Batch) Add(to api.Addr, text string) api.Errno
func (b *Batch) Flush() []Out
func (b *Batch) Len() int
func (b *Batch) Full() bool
`,
		"actor": `
func New(s session.Session, room int) (Actor, api.Errno)
func (a Actor) Put(e Event) (Actor, api.Errno)
func (a Actor) Push(e Event) Actor
func (a Actor) Step(p *pool.Pool, now uint64) (Actor, Done, bool)
func (a Actor) Session() session.Session
func (a Actor) Waiting() []Event
func (a Actor) Dropped() uint64
func (a Actor) Over() bool
func Run(s session.Session, e Event, text string, now uint64) (session.Session, Done)
`,
		"reap": `
func Idle(at, now, after uint64) bool
func Which(l []Seen, now, after uint64) []api.ID
func Next(l []Seen, after uint64) (uint64, bool)
func Oldest(l []Seen) (Seen, bool)
`,
		"drain": `
func (d Drain) Begin(now, wait uint64) (Drain, api.Errno)
func (d Drain) Closed(n uint64) Drain
func (d Drain) Tick(now uint64, live int) (Drain, bool)
func (d Drain) On() bool
func (d Drain) Over() bool
func (d Drain) Deadline() (uint64, bool)
func (d Drain) Counts() (closed, forced uint64)
func (d Drain) Left() float64
`,
		"daemon": `
func New(s Setting) (*Daemon, api.Errno)
func (d *Daemon) Open(key string) (api.ID, api.Errno)
func (d *Daemon) Arrive(from api.Addr, text string) api.Errno
func (d *Daemon) Write(id api.ID, out string) api.Errno
func (d *Daemon) Close(id api.ID) api.Errno
func (d *Daemon) Pick(n int) (Trace, bool)
func (d *Daemon) Tick(n uint64)
func (d *Daemon) Drain() api.Errno
func (d *Daemon) Flush() []batch.Out
func (d *Daemon) Enabled() []api.ID
func (d *Daemon) Live() []api.ID
func (d *Daemon) Actor(id api.ID) (actor.Actor, bool)
func (d *Daemon) Counts() Counts
func (d *Daemon) Now() uint64
func (d *Daemon) Free() int
func (d *Daemon) Timers() []wheel.Timer
func (d *Daemon) State() (draining, over bool)
`,
		"line": `
func (l Line) Send(x Item) Line
func (l Line) Ready(now uint64) []int
func (l Line) Take(i int, now uint64) (Line, Item, api.Errno)
func (l Line) Lose(i int) (Line, api.Errno)
func (l Line) Double(i int, at uint64) (Line, api.Errno)
func (l Line) Delay(i int, by uint64) (Line, api.Errno)
func (l Line) All() []Item
func (l Line) Len() int
func (l Line) Next() (uint64, bool)
`,
		"world": `
func New(s daemon.Setting, delay uint64) (*World, api.Errno)
func (w *World) Open(key string, at api.Addr) (int, api.Errno)
func (w *World) Type(i int, s string) api.Errno
func (w *World) Write(i int, out string) api.Errno
func (w *World) Leave(i int) api.Errno
func (w *World) Roam(i int, at api.Addr) api.Errno
func (w *World) Pump(i int) int
func (w *World) Out() int
func (w *World) Comes(k int) bool
func (w *World) Lose(k int) bool
func (w *World) Double(k int) bool
func (w *World) Pick(n int) (daemon.Trace, bool)
func (w *World) Tick(n uint64)
func (w *World) Drain() api.Errno
func (w *World) Round(n uint64)
func (w *World) Daemon() *daemon.Daemon
func (w *World) Client(i int) (client.Client, api.ID, api.Addr, bool)
func (w *World) Clients() int
func (w *World) Line() line.Line
`,
		"live": `
func Run(jobs ...Job) []Result
func One(j Job) Result
func Spread(p *pool.Pool, workers int, texts ...string) []api.Errno
func Crowd(t *table.Table[int], workers int, ids ...api.ID) []api.Errno
`,
		"gauge": `
func New(edges ...float64) (Gauge, api.Errno)
func (g Gauge) Add(x float64) Gauge
func (g Gauge) Counts() []uint64
func (g Gauge) None() uint64
func (g Gauge) Total() uint64
func (g Gauge) Span() (float64, float64)
func (g Gauge) At(share float64) float64
func (g Gauge) Join(h Gauge) (Gauge, api.Errno)
func (g Gauge) Edges() []float64
func Of(d *daemon.Daemon, edges ...float64) (Gauge, api.Errno)
`,
		"script": `
func Line(e Event) (string, api.Errno)
func Print(l ...Event) (string, api.Errno)
func Parse(t string) ([]Event, int, api.Errno)
func Do(w *world.World, e Event) (int, api.Errno)
func Run(w *world.World, t string) ([]string, api.Errno)
func Words() [14]string
`,
		"report": `
func Plain(s string) string
func Address(a api.Addr) string
func Frame(s screen.Screen) []string
func Session(s session.Session) string
func Counts(c daemon.Counts) []string
func Daemon(d *daemon.Daemon) []string
func Whole(l []string) string
`,
		"audit": `
func (a Audit) Open(id api.ID, key string, s session.Setting, now uint64) (Audit, api.Errno)
func (a Audit) Add(t daemon.Trace) (Audit, api.Errno)
func (a Audit) Session(id api.ID) (session.Session, bool)
func (a Audit) IDs() []api.ID
func (a Audit) Len() int
func (a Audit) Sent(id api.ID) uint64
func (a Audit) Check(d *daemon.Daemon) bool
`,
		"stat": `
func Of(c daemon.Counts) Stat
func (s Stat) Get(name string) (uint64, bool)
func (s Stat) Share(a, b string) float64
func (s Stat) Loss() float64
func (s Stat) Less(t Stat) Stat
func (s Stat) Join(t Stat) Stat
func (s Stat) Names() []string
func (s Stat) Rate(name string, ticks uint64) float64
func (s Stat) Top() (string, bool)
`,
	}
}
